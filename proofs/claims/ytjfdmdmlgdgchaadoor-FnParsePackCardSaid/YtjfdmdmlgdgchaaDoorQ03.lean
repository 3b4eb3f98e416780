import Derived.Test.YtjfdmdmlgdgchaaDoorQ02
import Derived.LoopTactic
import Derived.Test.YtjfdmdmlgdgchaaDoorShl
import Derived.WalkKit
import Derived.Below
import Derived.Lib.ItoaNum
import Derived.Test.YtjfdmdmlgdgchaaDoorRows
import Derived.Test.YtjfdmdmlgdgchaaDoorTie
import Derived.Test.YtjfdmdmlgdgchaaDoorCards
import Derived.ProofKit
import Derived.LaidHandle
import Derived.LaidMore
import Derived.MakeChecks
import Derived.SevenTiedAt
import Derived.OpenShut
import Derived.Lib.LaidTab
section
namespace Go.Proofs.YtjfdmdmlgdgchaaDoor
open Go.RowKit
set_option linter.unusedVariables false
set_option maxHeartbeats 2000000
theorem Bts.alloc' {w : World} {A : Option Addr} {n : Nat} (h : Bts w A n) (o : Obj) : Bts (w.alloc o) A n := h.alloc o
theorem put9h {w : World} {b : Nat} {a0 a1 a2 a3 a4 a5 a6 a7 a8 : Value} {T : TypeId} {fz : Nat × Nat} (h : w.heap[b]? = some (.cells #[a0, a1, a2, a3, a4, a5, a6, a7, a8] T fz)) (x0 x1 x2 x3 x4 x5 x6 x7 x8 : Value) :
    (((((((((w.setCell ⟨b, 0, none⟩ x0).setCell ⟨b, 1, none⟩ x1).setCell ⟨b, 2, none⟩ x2).setCell ⟨b, 3, none⟩ x3).setCell ⟨b, 4, none⟩ x4).setCell ⟨b, 5, none⟩ x5).setCell ⟨b, 6, none⟩ x6).setCell ⟨b, 7, none⟩ x7).setCell ⟨b, 8, none⟩ x8).heap[b]? = some (.cells #[x0, x1, x2, x3, x4, x5, x6, x7, x8] T fz) := by
  replace h := put1h (i := 0) h x0
  simp only [List.setIfInBounds_toArray, List.set_cons_zero] at h
  replace h := put1h (i := 1) h x1
  simp only [List.setIfInBounds_toArray, List.set_cons_succ, List.set_cons_zero] at h
  replace h := put1h (i := 2) h x2
  simp only [List.setIfInBounds_toArray, List.set_cons_succ, List.set_cons_zero] at h
  replace h := put1h (i := 3) h x3
  simp only [List.setIfInBounds_toArray, List.set_cons_succ, List.set_cons_zero] at h
  replace h := put1h (i := 4) h x4
  simp only [List.setIfInBounds_toArray, List.set_cons_succ, List.set_cons_zero] at h
  replace h := put1h (i := 5) h x5
  simp only [List.setIfInBounds_toArray, List.set_cons_succ, List.set_cons_zero] at h
  replace h := put1h (i := 6) h x6
  simp only [List.setIfInBounds_toArray, List.set_cons_succ, List.set_cons_zero] at h
  replace h := put1h (i := 7) h x7
  simp only [List.setIfInBounds_toArray, List.set_cons_succ, List.set_cons_zero] at h
  replace h := put1h (i := 8) h x8
  simp only [List.setIfInBounds_toArray, List.set_cons_succ, List.set_cons_zero] at h
  exact h
theorem put9c {S : List Nat} {a w : World} {b : Nat} (h : Chg S a w) (hb : b ∈ S ∨ a.heap.size ≤ b) (x0 x1 x2 x3 x4 x5 x6 x7 x8 : Value) : Chg S a (((((((((w.setCell ⟨b, 0, none⟩ x0).setCell ⟨b, 1, none⟩ x1).setCell ⟨b, 2, none⟩ x2).setCell ⟨b, 3, none⟩ x3).setCell ⟨b, 4, none⟩ x4).setCell ⟨b, 5, none⟩ x5).setCell ⟨b, 6, none⟩ x6).setCell ⟨b, 7, none⟩ x7).setCell ⟨b, 8, none⟩ x8) :=
  ((((((((h.setCell hb _).setCell hb _).setCell hb _).setCell hb _).setCell hb _).setCell hb _).setCell hb _).setCell hb _).setCell hb _
theorem put9r {B rb b : Nat} {A : Option Addr} {n c m : Nat} {w : World} (h : Rd B rb A n c m w) (h1 : B ≤ b) (h2 : b ≠ rb) (x0 x1 x2 x3 x4 x5 x6 x7 x8 : Value) : Rd B rb A n c m (((((((((w.setCell ⟨b, 0, none⟩ x0).setCell ⟨b, 1, none⟩ x1).setCell ⟨b, 2, none⟩ x2).setCell ⟨b, 3, none⟩ x3).setCell ⟨b, 4, none⟩ x4).setCell ⟨b, 5, none⟩ x5).setCell ⟨b, 6, none⟩ x6).setCell ⟨b, 7, none⟩ x7).setCell ⟨b, 8, none⟩ x8) :=
  ((((((((h.setCell h1 h2 _).setCell h1 h2 _).setCell h1 h2 _).setCell h1 h2 _).setCell h1 h2 _).setCell h1 h2 _).setCell h1 h2 _).setCell h1 h2 _).setCell h1 h2 _
theorem b9f {w : World} {b : Nat} {cs : Array Value} {T : TypeId} (h : w.heap[b]? = some (.cells cs T (0, 0))) : w.frozen? ⟨b, 0, none⟩ = false ∧ w.frozen? ⟨b, 1, none⟩ = false ∧ w.frozen? ⟨b, 2, none⟩ = false ∧ w.frozen? ⟨b, 3, none⟩ = false ∧ w.frozen? ⟨b, 4, none⟩ = false ∧ w.frozen? ⟨b, 5, none⟩ = false ∧ w.frozen? ⟨b, 6, none⟩ = false ∧ w.frozen? ⟨b, 7, none⟩ = false ∧ w.frozen? ⟨b, 8, none⟩ = false :=
  ⟨frozen_of_heap h 0, frozen_of_heap h 1, frozen_of_heap h 2, frozen_of_heap h 3, frozen_of_heap h 4, frozen_of_heap h 5, frozen_of_heap h 6, frozen_of_heap h 7, frozen_of_heap h 8⟩
set_option maxRecDepth 100000 in
theorem goodPack_any {B rb : Nat} {A : Option Addr} {l c m : Nat} (w : World) (h : Rd B rb A l c m w) (hm : m ≤ 900000) :
    Calls Tryd.prog 35 #[.pointer (some ⟨rb, 0, none⟩)] w fun e w' => (∃ (w0 h0 s : Int) (fx fy ex : Bool) (an px py : Int), e = .returned (.agg #[.int .i64 w0, .int .i64 h0, .int .i64 s, .bool fx, .bool fy, .bool ex, .int .i64 an, .int .i64 px, .int .i64 py])) ∧ Rd B rb A l c (m + 20) w' ∧ Chg [rb] w w' := by
  have hlt := h.lt
  have hbase := h.base
  go_enter Tryd.func35, Tryd.ntmps35
  go_wp2_with fail
  with_reducible refine (pick_any _ _ (h.alloc _) (by omega)).mono ?_
  rintro e w1 ⟨⟨z1, rfl, -⟩, hr1, hc1⟩
  go_wp2_with fail
  with_reducible refine (one_lit _ hr1 (by omega) (by simp) (by omega) (by omega) (by simp [isI])).mono ?_
  rintro e w2 ⟨⟨z2, rfl⟩, hr2, hc2⟩
  go_wp2_with fail
  with_reducible refine (pick_any _ _ hr2 (by omega)).mono ?_
  rintro e w3 ⟨⟨z3, rfl, -⟩, hr3, hc3⟩
  go_wp2_with fail
  with_reducible refine (one_lit _ hr3 (by omega) (by simp) (by omega) (by omega) (by simp [isI])).mono ?_
  rintro e w4 ⟨⟨z4, rfl⟩, hr4, hc4⟩
  go_wp2_with fail
  with_reducible refine (pick_any _ _ hr4 (by omega)).mono ?_
  rintro e w5 ⟨⟨z5, rfl, -⟩, hr5, hc5⟩
  go_wp2_with fail
  with_reducible refine (pick_any _ _ hr5 (by omega)).mono ?_
  rintro e w6 ⟨⟨z6, rfl, -⟩, hr6, hc6⟩
  go_wp2_with fail
  with_reducible refine (one_lit _ hr6 (by omega) (by simp) (by omega) (by omega) (by simp [isI])).mono ?_
  rintro e w7 ⟨⟨z7, rfl⟩, hr7, hc7⟩
  have hc : Chg [rb] (w.alloc _) w7 := ((((((hc1).trans hc2).trans hc3).trans hc4).trans hc5).trans hc6).trans hc7
  clear hc1 hc2 hc3 hc4 hc5 hc6 hc7 hr1 hr2 hr3 hr4 hr5 hr6
  have hb0 := (hc.block w.heap.size (by simp) (by simp; omega)).trans (heap_alloc_new w _)
  have hs := hc.size
  simp only [World.size_alloc] at hs
  have HC := Lib.hid (((Chg.refl [rb] w).alloc _).trans hc)
  have hl7 := hr7.lt
  have hx0 := Nat.lt_of_succ_le hs
  have hn0 : w.heap.size ≠ rb := by omega
  have hB0 : B ≤ w.heap.size := by omega
  have hn1 : w7.heap.size ≠ rb := by omega
  have hB1 : B ≤ w7.heap.size := by omega
  have hn01 : w.heap.size ≠ w7.heap.size := by omega
  have hn10 : ¬ w7.heap.size = w.heap.size := by omega
  have hw1 : w.heap.size ≤ w7.heap.size := by omega
  clear hc hlt hbase hs hl7
  have hb1 := heap_alloc_new w7 (.cells #[.int .i64 z2, .int .i64 z4, .int .i64 z5, .bool false, .bool false, .bool false, .int .i64 z7, .int .i64 0, .int .i64 0] 23)
  replace hb0 := (Below.heap_alloc w7 (.cells #[.int .i64 z2, .int .i64 z4, .int .i64 z5, .bool false, .bool false, .bool false, .int .i64 z7, .int .i64 0, .int .i64 0] 23) w.heap.size hx0).trans hb0
  have HB0 := Lib.hid hb0
  have HB1 := Lib.hid hb1
  replace HC := Lib.hid (HC.out.alloc (.cells #[.int .i64 z2, .int .i64 z4, .int .i64 z5, .bool false, .bool false, .bool false, .int .i64 z7, .int .i64 0, .int .i64 0] 23))
  have HR := Lib.hid (hr7.alloc (.cells #[.int .i64 z2, .int .i64 z4, .int .i64 z5, .bool false, .bool false, .bool false, .int .i64 z7, .int .i64 0, .int .i64 0] 23))
  clear hb0 hb1 hr7
  have hz0 : w.heap.size < (w7.alloc (.cells #[.int .i64 z2, .int .i64 z4, .int .i64 z5, .bool false, .bool false, .bool false, .int .i64 z7, .int .i64 0, .int .i64 0] 23)).heap.size := by simp; omega
  have hz1 : w7.heap.size < (w7.alloc (.cells #[.int .i64 z2, .int .i64 z4, .int .i64 z5, .bool false, .bool false, .bool false, .int .i64 z7, .int .i64 0, .int .i64 0] 23)).heap.size := by simp
  have HZ0 := Lib.hid hz0
  have HZ1 := Lib.hid hz1
  clear hz0 hz1
  go_wp2_with fail
  with_reducible refine (pick_any _ _ HR.out (by omega)).mono ?_
  rintro e w8 ⟨⟨z8, rfl, -⟩, hr8, hc8⟩
  have h0 := (hc8.block _ HZ0.out (by simpa using hn0)).trans HB0.out
  have h1 := (hc8.block _ HZ1.out (by simpa using hn1)).trans HB1.out
  have c3 := cellH h1 3
  have f3 := frozen_of_heap h1 3
  simp at c3
  replace HB0 := Lib.hid ((Below.heap_setCell w8 ⟨w7.heap.size, 3, none⟩ (.bool (z8 == 0)) _ hn01).trans h0)
  have hp1 := put1h (i := 3) h1 (.bool (z8 == 0))
  simp only [List.setIfInBounds_toArray, List.set_cons_succ, List.set_cons_zero] at hp1
  replace HB1 := Lib.hid hp1
  replace HC := Lib.hid ((HC.out.trans hc8).setCell (p := ⟨w7.heap.size, 3, none⟩) (.inr hw1) (.bool (z8 == 0)))
  replace HR := Lib.hid (hr8.setCell (p := ⟨w7.heap.size, 3, none⟩) hB1 hn1 (.bool (z8 == 0)))
  replace HZ0 := Lib.hid (show w.heap.size < (w8.setCell ⟨w7.heap.size, 3, none⟩ (.bool (z8 == 0))).heap.size from by simpa [World.setCell] using Nat.lt_of_lt_of_le HZ0.out hc8.size)
  replace HZ1 := Lib.hid (show w7.heap.size < (w8.setCell ⟨w7.heap.size, 3, none⟩ (.bool (z8 == 0))).heap.size from by simpa [World.setCell] using Nat.lt_of_lt_of_le HZ1.out hc8.size)
  clear h0 h1 hr8 hc8 hp1
  go_wp2_with fail
  with_reducible refine (pick_any _ _ HR.out (by omega)).mono ?_
  rintro e w9 ⟨⟨z9, rfl, -⟩, hr9, hc9⟩
  clear c3 f3
  have h0 := (hc9.block _ HZ0.out (by simpa using hn0)).trans HB0.out
  have h1 := (hc9.block _ HZ1.out (by simpa using hn1)).trans HB1.out
  have c4 := cellH h1 4
  have f4 := frozen_of_heap h1 4
  simp at c4
  replace HB0 := Lib.hid ((Below.heap_setCell w9 ⟨w7.heap.size, 4, none⟩ (.bool (z9 == 0)) _ hn01).trans h0)
  have hp1 := put1h (i := 4) h1 (.bool (z9 == 0))
  simp only [List.setIfInBounds_toArray, List.set_cons_succ, List.set_cons_zero] at hp1
  replace HB1 := Lib.hid hp1
  replace HC := Lib.hid ((HC.out.trans hc9).setCell (p := ⟨w7.heap.size, 4, none⟩) (.inr hw1) (.bool (z9 == 0)))
  replace HR := Lib.hid (hr9.setCell (p := ⟨w7.heap.size, 4, none⟩) hB1 hn1 (.bool (z9 == 0)))
  replace HZ0 := Lib.hid (show w.heap.size < (w9.setCell ⟨w7.heap.size, 4, none⟩ (.bool (z9 == 0))).heap.size from by simpa [World.setCell] using Nat.lt_of_lt_of_le HZ0.out hc9.size)
  replace HZ1 := Lib.hid (show w7.heap.size < (w9.setCell ⟨w7.heap.size, 4, none⟩ (.bool (z9 == 0))).heap.size from by simpa [World.setCell] using Nat.lt_of_lt_of_le HZ1.out hc9.size)
  clear h0 h1 hr9 hc9 hp1
  go_wp2_with fail
  with_reducible refine (pick_any _ _ HR.out (by omega)).mono ?_
  rintro e w10 ⟨⟨z10, rfl, -⟩, hr10, hc10⟩
  clear c4 f4
  have h0 := (hc10.block _ HZ0.out (by simpa using hn0)).trans HB0.out
  have h1 := (hc10.block _ HZ1.out (by simpa using hn1)).trans HB1.out
  have c5 := cellH h1 5
  have f5 := frozen_of_heap h1 5
  simp at c5
  replace HB0 := Lib.hid ((Below.heap_setCell w10 ⟨w7.heap.size, 5, none⟩ (.bool (z10 == 0)) _ hn01).trans h0)
  have hp1 := put1h (i := 5) h1 (.bool (z10 == 0))
  simp only [List.setIfInBounds_toArray, List.set_cons_succ, List.set_cons_zero] at hp1
  replace HB1 := Lib.hid hp1
  replace HC := Lib.hid ((HC.out.trans hc10).setCell (p := ⟨w7.heap.size, 5, none⟩) (.inr hw1) (.bool (z10 == 0)))
  replace HR := Lib.hid (hr10.setCell (p := ⟨w7.heap.size, 5, none⟩) hB1 hn1 (.bool (z10 == 0)))
  replace HZ0 := Lib.hid (show w.heap.size < (w10.setCell ⟨w7.heap.size, 5, none⟩ (.bool (z10 == 0))).heap.size from by simpa [World.setCell] using Nat.lt_of_lt_of_le HZ0.out hc10.size)
  replace HZ1 := Lib.hid (show w7.heap.size < (w10.setCell ⟨w7.heap.size, 5, none⟩ (.bool (z10 == 0))).heap.size from by simpa [World.setCell] using Nat.lt_of_lt_of_le HZ1.out hc10.size)
  clear h0 h1 hr10 hc10 hp1
  go_wp2_with fail
  with_reducible refine (pick_any _ _ HR.out (by omega)).mono ?_
  rintro e w11 ⟨⟨q, rfl, -⟩, hr11, hc11⟩
  clear c5 f5
  replace HB0 := Lib.hid ((hc11.block _ HZ0.out (by simpa using hn0)).trans HB0.out)
  replace HB1 := Lib.hid ((hc11.block _ HZ1.out (by simpa using hn1)).trans HB1.out)
  replace HC := Lib.hid (HC.out.trans hc11)
  replace HR := Lib.hid hr11
  replace HZ0 := Lib.hid (Nat.lt_of_lt_of_le HZ0.out hc11.size)
  replace HZ1 := Lib.hid (Nat.lt_of_lt_of_le HZ1.out hc11.size)
  clear hr11 hc11
  by_cases hq : q = 0
  · subst hq
    go_wp2_with fail
    with_reducible refine (pick_any _ _ HR.out (by omega)).mono ?_
    rintro e w12 ⟨⟨z12, rfl, -⟩, hr12, hc12⟩
    have h0 := (hc12.block _ HZ0.out (by simpa using hn0)).trans HB0.out
    have h1 := (hc12.block _ HZ1.out (by simpa using hn1)).trans HB1.out
    have c7 := cellH h1 7
    have f7 := frozen_of_heap h1 7
    simp at c7
    replace HB0 := Lib.hid ((Below.heap_setCell w12 ⟨w7.heap.size, 7, none⟩ (.int .i64 z12) _ hn01).trans h0)
    have hp1 := put1h (i := 7) h1 (.int .i64 z12)
    simp only [List.setIfInBounds_toArray, List.set_cons_succ, List.set_cons_zero] at hp1
    replace HB1 := Lib.hid hp1
    replace HC := Lib.hid ((HC.out.trans hc12).setCell (p := ⟨w7.heap.size, 7, none⟩) (.inr hw1) (.int .i64 z12))
    replace HR := Lib.hid (hr12.setCell (p := ⟨w7.heap.size, 7, none⟩) hB1 hn1 (.int .i64 z12))
    replace HZ0 := Lib.hid (show w.heap.size < (w12.setCell ⟨w7.heap.size, 7, none⟩ (.int .i64 z12)).heap.size from by simpa [World.setCell] using Nat.lt_of_lt_of_le HZ0.out hc12.size)
    replace HZ1 := Lib.hid (show w7.heap.size < (w12.setCell ⟨w7.heap.size, 7, none⟩ (.int .i64 z12)).heap.size from by simpa [World.setCell] using Nat.lt_of_lt_of_le HZ1.out hc12.size)
    clear h0 h1 hr12 hc12 hp1
    go_wp2_with fail
    with_reducible refine (pick_any _ _ HR.out (by omega)).mono ?_
    rintro e w13 ⟨⟨z13, rfl, -⟩, hr13, hc13⟩
    clear c7 f7
    have h0 := (hc13.block _ HZ0.out (by simpa using hn0)).trans HB0.out
    have h1 := (hc13.block _ HZ1.out (by simpa using hn1)).trans HB1.out
    have c8 := cellH h1 8
    have f8 := frozen_of_heap h1 8
    simp at c8
    replace HB0 := Lib.hid ((Below.heap_setCell w13 ⟨w7.heap.size, 8, none⟩ (.int .i64 z13) _ hn01).trans h0)
    have hp1 := put1h (i := 8) h1 (.int .i64 z13)
    simp only [List.setIfInBounds_toArray, List.set_cons_succ, List.set_cons_zero] at hp1
    replace HB1 := Lib.hid hp1
    replace HC := Lib.hid ((HC.out.trans hc13).setCell (p := ⟨w7.heap.size, 8, none⟩) (.inr hw1) (.int .i64 z13))
    replace HR := Lib.hid (hr13.setCell (p := ⟨w7.heap.size, 8, none⟩) hB1 hn1 (.int .i64 z13))
    replace HZ0 := Lib.hid (show w.heap.size < (w13.setCell ⟨w7.heap.size, 8, none⟩ (.int .i64 z13)).heap.size from by simpa [World.setCell] using Nat.lt_of_lt_of_le HZ0.out hc13.size)
    replace HZ1 := Lib.hid (show w7.heap.size < (w13.setCell ⟨w7.heap.size, 8, none⟩ (.int .i64 z13)).heap.size from by simpa [World.setCell] using Nat.lt_of_lt_of_le HZ1.out hc13.size)
    clear h0 h1 hr13 hc13 hp1
    have h0 := HB0.out
    have h1 := HB1.out
    obtain ⟨c0, c1, c2, c3, c4, c5, c6, c7, c8⟩ := b9c h1
    obtain ⟨d0, d1, d2, d3, d4, d5, d6, d7, d8⟩ := b9c h0
    obtain ⟨f0, f1, f2, f3, f4, f5, f6, f7, f8⟩ := b9f h0
    clear h0 h1
    go_wp2
    refine bp_gen (fun W => W.heap[w.heap.size]? = some (.cells #[.int .i64 z2, .int .i64 z4, .int .i64 z5, .bool (z8 == 0), .bool (z9 == 0), .bool (z10 == 0), .int .i64 z7, .int .i64 z12, .int .i64 z13] 23) ∧ Rd B rb A l c (m + 20) W ∧ Chg [rb] w W) ⟨put9h HB0.out (.int .i64 z2) (.int .i64 z4) (.int .i64 z5) (.bool (z8 == 0)) (.bool (z9 == 0)) (.bool (z10 == 0)) (.int .i64 z7) (.int .i64 z12) (.int .i64 z13), put9r (HR.out.mono (by omega)) hB0 hn0 (.int .i64 z2) (.int .i64 z4) (.int .i64 z5) (.bool (z8 == 0)) (.bool (z9 == 0)) (.bool (z10 == 0)) (.int .i64 z7) (.int .i64 z12) (.int .i64 z13), put9c HC.out (.inr (Nat.le_refl _)) (.int .i64 z2) (.int .i64 z4) (.int .i64 z5) (.bool (z8 == 0)) (.bool (z9 == 0)) (.bool (z10 == 0)) (.int .i64 z7) (.int .i64 z12) (.int .i64 z13)⟩ ?_
    clear HB0 HB1 HC HR c0 c1 c2 c3 c4 c5 c6 c7 c8 d0 d1 d2 d3 d4 d5 d6 d7 d8 f0 f1 f2 f3 f4 f5 f6 f7 f8
    rintro W ⟨h0, hR, hC⟩
    obtain ⟨d0, d1, d2, d3, d4, d5, d6, d7, d8⟩ := b9c h0
    exact bodyPost_ret (v := .agg #[.int .i64 z2, .int .i64 z4, .int .i64 z5, .bool (z8 == 0), .bool (z9 == 0), .bool (z10 == 0), .int .i64 z7, .int .i64 z12, .int .i64 z13]) (by simp only [results, Tryd.results35]; go_simp) rfl ⟨⟨_, _, _, _, _, _, _, _, _, rfl⟩, hR, hC⟩
  · have hq1 : (q == 0) = false := by simpa using hq
    have h0 := HB0.out
    have h1 := HB1.out
    obtain ⟨c0, c1, c2, c3, c4, c5, c6, c7, c8⟩ := b9c h1
    obtain ⟨d0, d1, d2, d3, d4, d5, d6, d7, d8⟩ := b9c h0
    obtain ⟨f0, f1, f2, f3, f4, f5, f6, f7, f8⟩ := b9f h0
    clear h0 h1
    go_wp2
    refine bp_gen (fun W => W.heap[w.heap.size]? = some (.cells #[.int .i64 z2, .int .i64 z4, .int .i64 z5, .bool (z8 == 0), .bool (z9 == 0), .bool (z10 == 0), .int .i64 z7, .int .i64 0, .int .i64 0] 23) ∧ Rd B rb A l c (m + 20) W ∧ Chg [rb] w W) ⟨put9h HB0.out (.int .i64 z2) (.int .i64 z4) (.int .i64 z5) (.bool (z8 == 0)) (.bool (z9 == 0)) (.bool (z10 == 0)) (.int .i64 z7) (.int .i64 0) (.int .i64 0), put9r (HR.out.mono (by omega)) hB0 hn0 (.int .i64 z2) (.int .i64 z4) (.int .i64 z5) (.bool (z8 == 0)) (.bool (z9 == 0)) (.bool (z10 == 0)) (.int .i64 z7) (.int .i64 0) (.int .i64 0), put9c HC.out (.inr (Nat.le_refl _)) (.int .i64 z2) (.int .i64 z4) (.int .i64 z5) (.bool (z8 == 0)) (.bool (z9 == 0)) (.bool (z10 == 0)) (.int .i64 z7) (.int .i64 0) (.int .i64 0)⟩ ?_
    clear HB0 HB1 HC HR c0 c1 c2 c3 c4 c5 c6 c7 c8 d0 d1 d2 d3 d4 d5 d6 d7 d8 f0 f1 f2 f3 f4 f5 f6 f7 f8
    rintro W ⟨h0, hR, hC⟩
    obtain ⟨d0, d1, d2, d3, d4, d5, d6, d7, d8⟩ := b9c h0
    exact bodyPost_ret (v := .agg #[.int .i64 z2, .int .i64 z4, .int .i64 z5, .bool (z8 == 0), .bool (z9 == 0), .bool (z10 == 0), .int .i64 z7, .int .i64 0, .int .i64 0]) (by simp only [results, Tryd.results35]; go_simp) rfl ⟨⟨_, _, _, _, _, _, _, _, _, rfl⟩, hR, hC⟩
set_option maxRecDepth 100000 in
theorem somePack_any {B rb : Nat} {A : Option Addr} {l c m : Nat} (w : World) (h : Rd B rb A l c m w) (hm : m ≤ 800000) :
    Calls Tryd.prog 29 #[.pointer (some ⟨rb, 0, none⟩)] w fun e w' => (∃ (w0 h0 s : Int) (fx fy ex : Bool) (an px py : Int), e = .returned (.agg #[.int .i64 w0, .int .i64 h0, .int .i64 s, .bool fx, .bool fy, .bool ex, .int .i64 an, .int .i64 px, .int .i64 py])) ∧ Rd B rb A l c (m + 22) w' ∧ Chg [rb] w w' := by
  have hlt := h.lt
  have hbase := h.base
  go_enter Tryd.func29, Tryd.ntmps29
  go_wp2_with fail
  with_reducible refine (goodPack_any _ (h.alloc _) (by omega)).mono ?_
  rintro e w1 ⟨⟨v0, v1, v2, v3, v4, v5, v6, v7, v8, rfl⟩, hr1, hc⟩
  have hb0 := (hc.block w.heap.size (by simp) (by simp; omega)).trans (heap_alloc_new w _)
  have hs := hc.size
  simp only [World.size_alloc] at hs
  have HC := Lib.hid (((Chg.refl [rb] w).alloc _).trans hc)
  have hl7 := hr1.lt
  have hx0 := Nat.lt_of_succ_le hs
  have hn0 : w.heap.size ≠ rb := by omega
  have hB0 : B ≤ w.heap.size := by omega
  have hn1 : w1.heap.size ≠ rb := by omega
  have hB1 : B ≤ w1.heap.size := by omega
  have hn01 : w.heap.size ≠ w1.heap.size := by omega
  have hn10 : ¬ w1.heap.size = w.heap.size := by omega
  have hw1 : w.heap.size ≤ w1.heap.size := by omega
  clear hc hlt hbase hs hl7
  have hb1 := heap_alloc_new w1 (.cells #[.int .i64 v0, .int .i64 v1, .int .i64 v2, .bool v3, .bool v4, .bool v5, .int .i64 v6, .int .i64 v7, .int .i64 v8] 23)
  replace hb0 := (Below.heap_alloc w1 (.cells #[.int .i64 v0, .int .i64 v1, .int .i64 v2, .bool v3, .bool v4, .bool v5, .int .i64 v6, .int .i64 v7, .int .i64 v8] 23) w.heap.size hx0).trans hb0
  replace HC := Lib.hid (HC.out.alloc (.cells #[.int .i64 v0, .int .i64 v1, .int .i64 v2, .bool v3, .bool v4, .bool v5, .int .i64 v6, .int .i64 v7, .int .i64 v8] 23))
  have HR := Lib.hid (hr1.alloc (.cells #[.int .i64 v0, .int .i64 v1, .int .i64 v2, .bool v3, .bool v4, .bool v5, .int .i64 v6, .int .i64 v7, .int .i64 v8] 23))
  clear hr1
  have HB0 := Lib.hid hb0
  have HB1 := Lib.hid hb1
  clear hb0 hb1
  have hz0 : w.heap.size < (w1.alloc (.cells #[.int .i64 v0, .int .i64 v1, .int .i64 v2, .bool v3, .bool v4, .bool v5, .int .i64 v6, .int .i64 v7, .int .i64 v8] 23)).heap.size := by simp; omega
  have hz1 : w1.heap.size < (w1.alloc (.cells #[.int .i64 v0, .int .i64 v1, .int .i64 v2, .bool v3, .bool v4, .bool v5, .int .i64 v6, .int .i64 v7, .int .i64 v8] 23)).heap.size := by simp
  have HZ0 := Lib.hid hz0
  have HZ1 := Lib.hid hz1
  clear hz0 hz1
  go_wp2_with fail
  with_reducible refine (pick_any _ _ HR.out (by omega)).mono ?_
  rintro e w2 ⟨⟨q, rfl, -⟩, hr2, hc2⟩
  replace HB0 := Lib.hid ((hc2.block _ HZ0.out (by simpa using hn0)).trans HB0.out)
  replace HB1 := Lib.hid ((hc2.block _ HZ1.out (by simpa using hn1)).trans HB1.out)
  replace HC := Lib.hid (HC.out.trans hc2)
  replace HR := Lib.hid hr2
  replace HZ0 := Lib.hid (Nat.lt_of_lt_of_le HZ0.out hc2.size)
  replace HZ1 := Lib.hid (Nat.lt_of_lt_of_le HZ1.out hc2.size)
  clear hr2 hc2
  by_cases q0 : q = 0
  · subst q0
    go_wp2_with fail
    with_reducible refine (one_lit _ HR.out (by omega) (by simp) (by omega) (by omega) (by simp [isI])).mono ?_
    rintro e w3 ⟨⟨z, rfl⟩, hr3, hc3⟩
    replace HB0 := Lib.hid ((hc3.block _ HZ0.out (by simpa using hn0)).trans HB0.out)
    replace HB1 := Lib.hid ((hc3.block _ HZ1.out (by simpa using hn1)).trans HB1.out)
    replace HC := Lib.hid (HC.out.trans hc3)
    replace HR := Lib.hid hr3
    replace HZ0 := Lib.hid (Nat.lt_of_lt_of_le HZ0.out hc3.size)
    replace HZ1 := Lib.hid (Nat.lt_of_lt_of_le HZ1.out hc3.size)
    clear hr3 hc3
    have h0 := HB0.out
    have h1 := HB1.out
    obtain ⟨c0, c1, c2, c3, c4, c5, c6, c7, c8⟩ := b9c h1
    obtain ⟨d0, d1, d2, d3, d4, d5, d6, d7, d8⟩ := b9c h0
    obtain ⟨f0, f1, f2, f3, f4, f5, f6, f7, f8⟩ := b9f h0
    have g0 := frozen_of_heap h1 0
    clear h0 h1
    go_wp2
    refine bp_gen (fun W => W.heap[w.heap.size]? = some (.cells #[.int .i64 z, .int .i64 v1, .int .i64 v2, .bool v3, .bool v4, .bool v5, .int .i64 v6, .int .i64 v7, .int .i64 v8] 23) ∧ Rd B rb A l c (m + 22) W ∧ Chg [rb] w W) ⟨put9h ((Below.heap_setCell w3 ⟨w1.heap.size, 0, none⟩ (.int .i64 z) _ hn01).trans HB0.out) (.int .i64 z) (.int .i64 v1) (.int .i64 v2) (.bool v3) (.bool v4) (.bool v5) (.int .i64 v6) (.int .i64 v7) (.int .i64 v8), put9r ((HR.out.setCell (p := ⟨w1.heap.size, 0, none⟩) hB1 hn1 (.int .i64 z)).mono (by omega)) hB0 hn0 (.int .i64 z) (.int .i64 v1) (.int .i64 v2) (.bool v3) (.bool v4) (.bool v5) (.int .i64 v6) (.int .i64 v7) (.int .i64 v8), put9c (HC.out.setCell (p := ⟨w1.heap.size, 0, none⟩) (.inr hw1) (.int .i64 z)) (.inr (Nat.le_refl _)) (.int .i64 z) (.int .i64 v1) (.int .i64 v2) (.bool v3) (.bool v4) (.bool v5) (.int .i64 v6) (.int .i64 v7) (.int .i64 v8)⟩ ?_
    clear HB0 HB1 HC HR c0 c1 c2 c3 c4 c5 c6 c7 c8 d0 d1 d2 d3 d4 d5 d6 d7 d8 f0 f1 f2 f3 f4 f5 f6 f7 f8
    rintro W ⟨h0, hR, hC⟩
    obtain ⟨d0, d1, d2, d3, d4, d5, d6, d7, d8⟩ := b9c h0
    exact bodyPost_ret (v := .agg #[.int .i64 z, .int .i64 v1, .int .i64 v2, .bool v3, .bool v4, .bool v5, .int .i64 v6, .int .i64 v7, .int .i64 v8]) (by simp only [results, Tryd.results29]; go_simp) rfl ⟨⟨_, _, _, _, _, _, _, _, _, rfl⟩, hR, hC⟩
  by_cases q1 : q = 1
  · subst q1
    go_wp2_with fail
    with_reducible refine (one_lit _ HR.out (by omega) (by simp) (by omega) (by omega) (by simp [isI])).mono ?_
    rintro e w3 ⟨⟨z, rfl⟩, hr3, hc3⟩
    replace HB0 := Lib.hid ((hc3.block _ HZ0.out (by simpa using hn0)).trans HB0.out)
    replace HB1 := Lib.hid ((hc3.block _ HZ1.out (by simpa using hn1)).trans HB1.out)
    replace HC := Lib.hid (HC.out.trans hc3)
    replace HR := Lib.hid hr3
    replace HZ0 := Lib.hid (Nat.lt_of_lt_of_le HZ0.out hc3.size)
    replace HZ1 := Lib.hid (Nat.lt_of_lt_of_le HZ1.out hc3.size)
    clear hr3 hc3
    have h0 := HB0.out
    have h1 := HB1.out
    obtain ⟨c0, c1, c2, c3, c4, c5, c6, c7, c8⟩ := b9c h1
    obtain ⟨d0, d1, d2, d3, d4, d5, d6, d7, d8⟩ := b9c h0
    obtain ⟨f0, f1, f2, f3, f4, f5, f6, f7, f8⟩ := b9f h0
    have g0 := frozen_of_heap h1 2
    clear h0 h1
    go_wp2
    refine bp_gen (fun W => W.heap[w.heap.size]? = some (.cells #[.int .i64 v0, .int .i64 v1, .int .i64 z, .bool v3, .bool v4, .bool v5, .int .i64 v6, .int .i64 v7, .int .i64 v8] 23) ∧ Rd B rb A l c (m + 22) W ∧ Chg [rb] w W) ⟨put9h ((Below.heap_setCell w3 ⟨w1.heap.size, 2, none⟩ (.int .i64 z) _ hn01).trans HB0.out) (.int .i64 v0) (.int .i64 v1) (.int .i64 z) (.bool v3) (.bool v4) (.bool v5) (.int .i64 v6) (.int .i64 v7) (.int .i64 v8), put9r ((HR.out.setCell (p := ⟨w1.heap.size, 2, none⟩) hB1 hn1 (.int .i64 z)).mono (by omega)) hB0 hn0 (.int .i64 v0) (.int .i64 v1) (.int .i64 z) (.bool v3) (.bool v4) (.bool v5) (.int .i64 v6) (.int .i64 v7) (.int .i64 v8), put9c (HC.out.setCell (p := ⟨w1.heap.size, 2, none⟩) (.inr hw1) (.int .i64 z)) (.inr (Nat.le_refl _)) (.int .i64 v0) (.int .i64 v1) (.int .i64 z) (.bool v3) (.bool v4) (.bool v5) (.int .i64 v6) (.int .i64 v7) (.int .i64 v8)⟩ ?_
    clear HB0 HB1 HC HR c0 c1 c2 c3 c4 c5 c6 c7 c8 d0 d1 d2 d3 d4 d5 d6 d7 d8 f0 f1 f2 f3 f4 f5 f6 f7 f8
    rintro W ⟨h0, hR, hC⟩
    obtain ⟨d0, d1, d2, d3, d4, d5, d6, d7, d8⟩ := b9c h0
    exact bodyPost_ret (v := .agg #[.int .i64 v0, .int .i64 v1, .int .i64 z, .bool v3, .bool v4, .bool v5, .int .i64 v6, .int .i64 v7, .int .i64 v8]) (by simp only [results, Tryd.results29]; go_simp) rfl ⟨⟨_, _, _, _, _, _, _, _, _, rfl⟩, hR, hC⟩
  by_cases q2 : q = 2
  · subst q2
    go_wp2_with fail
    with_reducible refine (one_lit _ HR.out (by omega) (by simp) (by omega) (by omega) (by simp [isI])).mono ?_
    rintro e w3 ⟨⟨z, rfl⟩, hr3, hc3⟩
    replace HB0 := Lib.hid ((hc3.block _ HZ0.out (by simpa using hn0)).trans HB0.out)
    replace HB1 := Lib.hid ((hc3.block _ HZ1.out (by simpa using hn1)).trans HB1.out)
    replace HC := Lib.hid (HC.out.trans hc3)
    replace HR := Lib.hid hr3
    replace HZ0 := Lib.hid (Nat.lt_of_lt_of_le HZ0.out hc3.size)
    replace HZ1 := Lib.hid (Nat.lt_of_lt_of_le HZ1.out hc3.size)
    clear hr3 hc3
    have h0 := HB0.out
    have h1 := HB1.out
    obtain ⟨c0, c1, c2, c3, c4, c5, c6, c7, c8⟩ := b9c h1
    obtain ⟨d0, d1, d2, d3, d4, d5, d6, d7, d8⟩ := b9c h0
    obtain ⟨f0, f1, f2, f3, f4, f5, f6, f7, f8⟩ := b9f h0
    have g0 := frozen_of_heap h1 7
    clear h0 h1
    go_wp2
    refine bp_gen (fun W => W.heap[w.heap.size]? = some (.cells #[.int .i64 v0, .int .i64 v1, .int .i64 v2, .bool v3, .bool v4, .bool v5, .int .i64 v6, .int .i64 z, .int .i64 v8] 23) ∧ Rd B rb A l c (m + 22) W ∧ Chg [rb] w W) ⟨put9h ((Below.heap_setCell w3 ⟨w1.heap.size, 7, none⟩ (.int .i64 z) _ hn01).trans HB0.out) (.int .i64 v0) (.int .i64 v1) (.int .i64 v2) (.bool v3) (.bool v4) (.bool v5) (.int .i64 v6) (.int .i64 z) (.int .i64 v8), put9r ((HR.out.setCell (p := ⟨w1.heap.size, 7, none⟩) hB1 hn1 (.int .i64 z)).mono (by omega)) hB0 hn0 (.int .i64 v0) (.int .i64 v1) (.int .i64 v2) (.bool v3) (.bool v4) (.bool v5) (.int .i64 v6) (.int .i64 z) (.int .i64 v8), put9c (HC.out.setCell (p := ⟨w1.heap.size, 7, none⟩) (.inr hw1) (.int .i64 z)) (.inr (Nat.le_refl _)) (.int .i64 v0) (.int .i64 v1) (.int .i64 v2) (.bool v3) (.bool v4) (.bool v5) (.int .i64 v6) (.int .i64 z) (.int .i64 v8)⟩ ?_
    clear HB0 HB1 HC HR c0 c1 c2 c3 c4 c5 c6 c7 c8 d0 d1 d2 d3 d4 d5 d6 d7 d8 f0 f1 f2 f3 f4 f5 f6 f7 f8
    rintro W ⟨h0, hR, hC⟩
    obtain ⟨d0, d1, d2, d3, d4, d5, d6, d7, d8⟩ := b9c h0
    exact bodyPost_ret (v := .agg #[.int .i64 v0, .int .i64 v1, .int .i64 v2, .bool v3, .bool v4, .bool v5, .int .i64 v6, .int .i64 z, .int .i64 v8]) (by simp only [results, Tryd.results29]; go_simp) rfl ⟨⟨_, _, _, _, _, _, _, _, _, rfl⟩, hR, hC⟩
  by_cases q3 : q = 3
  · subst q3
    go_wp2_with fail
    with_reducible refine (one_lit _ HR.out (by omega) (by simp) (by omega) (by omega) (by simp [isI])).mono ?_
    rintro e w3 ⟨⟨z, rfl⟩, hr3, hc3⟩
    replace HB0 := Lib.hid ((hc3.block _ HZ0.out (by simpa using hn0)).trans HB0.out)
    replace HB1 := Lib.hid ((hc3.block _ HZ1.out (by simpa using hn1)).trans HB1.out)
    replace HC := Lib.hid (HC.out.trans hc3)
    replace HR := Lib.hid hr3
    replace HZ0 := Lib.hid (Nat.lt_of_lt_of_le HZ0.out hc3.size)
    replace HZ1 := Lib.hid (Nat.lt_of_lt_of_le HZ1.out hc3.size)
    clear hr3 hc3
    have h0 := HB0.out
    have h1 := HB1.out
    obtain ⟨c0, c1, c2, c3, c4, c5, c6, c7, c8⟩ := b9c h1
    obtain ⟨d0, d1, d2, d3, d4, d5, d6, d7, d8⟩ := b9c h0
    obtain ⟨f0, f1, f2, f3, f4, f5, f6, f7, f8⟩ := b9f h0
    have g0 := frozen_of_heap h1 6
    clear h0 h1
    go_wp2
    refine bp_gen (fun W => W.heap[w.heap.size]? = some (.cells #[.int .i64 v0, .int .i64 v1, .int .i64 v2, .bool v3, .bool v4, .bool v5, .int .i64 z, .int .i64 v7, .int .i64 v8] 23) ∧ Rd B rb A l c (m + 22) W ∧ Chg [rb] w W) ⟨put9h ((Below.heap_setCell w3 ⟨w1.heap.size, 6, none⟩ (.int .i64 z) _ hn01).trans HB0.out) (.int .i64 v0) (.int .i64 v1) (.int .i64 v2) (.bool v3) (.bool v4) (.bool v5) (.int .i64 z) (.int .i64 v7) (.int .i64 v8), put9r ((HR.out.setCell (p := ⟨w1.heap.size, 6, none⟩) hB1 hn1 (.int .i64 z)).mono (by omega)) hB0 hn0 (.int .i64 v0) (.int .i64 v1) (.int .i64 v2) (.bool v3) (.bool v4) (.bool v5) (.int .i64 z) (.int .i64 v7) (.int .i64 v8), put9c (HC.out.setCell (p := ⟨w1.heap.size, 6, none⟩) (.inr hw1) (.int .i64 z)) (.inr (Nat.le_refl _)) (.int .i64 v0) (.int .i64 v1) (.int .i64 v2) (.bool v3) (.bool v4) (.bool v5) (.int .i64 z) (.int .i64 v7) (.int .i64 v8)⟩ ?_
    clear HB0 HB1 HC HR c0 c1 c2 c3 c4 c5 c6 c7 c8 d0 d1 d2 d3 d4 d5 d6 d7 d8 f0 f1 f2 f3 f4 f5 f6 f7 f8
    rintro W ⟨h0, hR, hC⟩
    obtain ⟨d0, d1, d2, d3, d4, d5, d6, d7, d8⟩ := b9c h0
    exact bodyPost_ret (v := .agg #[.int .i64 v0, .int .i64 v1, .int .i64 v2, .bool v3, .bool v4, .bool v5, .int .i64 z, .int .i64 v7, .int .i64 v8]) (by simp only [results, Tryd.results29]; go_simp) rfl ⟨⟨_, _, _, _, _, _, _, _, _, rfl⟩, hR, hC⟩
  have e0 : (q == 0) = false := by simpa using q0
  have e1 : (q == 1) = false := by simpa using q1
  have e2 : (q == 2) = false := by simpa using q2
  have e3 : (q == 3) = false := by simpa using q3
  clear q0 q1 q2 q3
  have h0 := HB0.out
  have h1 := HB1.out
  obtain ⟨c0, c1, c2, c3, c4, c5, c6, c7, c8⟩ := b9c h1
  obtain ⟨d0, d1, d2, d3, d4, d5, d6, d7, d8⟩ := b9c h0
  obtain ⟨f0, f1, f2, f3, f4, f5, f6, f7, f8⟩ := b9f h0
  clear h0 h1
  go_wp2
  refine bp_gen (fun W => W.heap[w.heap.size]? = some (.cells #[.int .i64 v0, .int .i64 v1, .int .i64 v2, .bool v3, .bool v4, .bool v5, .int .i64 v6, .int .i64 v7, .int .i64 v8] 23) ∧ Rd B rb A l c (m + 22) W ∧ Chg [rb] w W) ⟨put9h HB0.out (.int .i64 v0) (.int .i64 v1) (.int .i64 v2) (.bool v3) (.bool v4) (.bool v5) (.int .i64 v6) (.int .i64 v7) (.int .i64 v8), put9r (HR.out.mono (by omega)) hB0 hn0 (.int .i64 v0) (.int .i64 v1) (.int .i64 v2) (.bool v3) (.bool v4) (.bool v5) (.int .i64 v6) (.int .i64 v7) (.int .i64 v8), put9c HC.out (.inr (Nat.le_refl _)) (.int .i64 v0) (.int .i64 v1) (.int .i64 v2) (.bool v3) (.bool v4) (.bool v5) (.int .i64 v6) (.int .i64 v7) (.int .i64 v8)⟩ ?_
  clear HB0 HB1 HC HR c0 c1 c2 c3 c4 c5 c6 c7 c8 d0 d1 d2 d3 d4 d5 d6 d7 d8 f0 f1 f2 f3 f4 f5 f6 f7 f8
  rintro W ⟨h0, hR, hC⟩
  obtain ⟨d0, d1, d2, d3, d4, d5, d6, d7, d8⟩ := b9c h0
  exact bodyPost_ret (v := .agg #[.int .i64 v0, .int .i64 v1, .int .i64 v2, .bool v3, .bool v4, .bool v5, .int .i64 v6, .int .i64 v7, .int .i64 v8]) (by simp only [results, Tryd.results29]; go_simp) rfl ⟨⟨_, _, _, _, _, _, _, _, _, rfl⟩, hR, hC⟩
end Go.Proofs.YtjfdmdmlgdgchaaDoor
end
section
set_option linter.unusedVariables false
namespace Go.Proofs.YtjfdmdmlgdgchaaDoor
def Pk.ok (p : Pk) : Bool := vpB p.w p.h p.s p.an p.px p.py
def vpsB (L : List Pk) : Bool := L.all Pk.ok && decide (L.length ≤ 7)
theorem vpsB_iff {L : List Pk} : vpsB L = true ↔ (∀ p ∈ L, p.ok = true) ∧ L.length ≤ 7 := by simp [vpsB, List.all_eq_true]
def Pk.down (p : Pk) : Bool := decide (p.s = 0 ∨ p.s = 1)
def Pk.need (p : Pk) (d : Bool) : Int := if d then p.h + 2 * p.py else p.w + 2 * p.px
theorem Pk.need_bd {p : Pk} (h : p.ok = true) (d : Bool) : 0 ≤ p.need d ∧ p.need d ≤ 50 := by
  have := vpB_iff.1 h
  unfold Pk.need
  split <;> omega
theorem all_snoc {L : List Pk} {k : Nat} {p : Pk} (h : L[k]? = some p) : (L.take (k + 1)).all Pk.ok = ((L.take k).all Pk.ok && p.ok) := by
  have hk : k < L.length := (List.getElem?_eq_some_iff.1 h).1
  have e : L[k] = p := (List.getElem?_eq_some_iff.1 h).2
  rw [List.take_succ_eq_append_getElem hk, e]
  simp
/-- an item whose size is not too great -/
def Pk.big (p : Pk) : Prop := ((0 ≤ p.w ∧ p.w ≤ 1000000000000) ∧ (0 ≤ p.h ∧ p.h ≤ 1000000000000) ∧ (0 ≤ p.s ∧ p.s ≤ 3) ∧ (0 ≤ p.an ∧ p.an ≤ 8) ∧ (0 ≤ p.px ∧ p.px ≤ 10) ∧ (0 ≤ p.py ∧ p.py ≤ 10))
theorem Pk.ok_big {p : Pk} (h : p.ok = true) : p.big := by
  have := vpB_iff.1 h
  unfold Pk.big
  omega
theorem Pk.need_bdW {p : Pk} (h : p.big) (d : Bool) : 0 ≤ p.need d ∧ p.need d ≤ 1000000000020 := by
  unfold Pk.big at h
  unfold Pk.need
  split <;> omega
end Go.Proofs.YtjfdmdmlgdgchaaDoor
end
section
namespace Go.Proofs.YtjfdmdmlgdgchaaDoor
open Go.RowKit
set_option linter.unusedVariables false
set_option maxHeartbeats 1000000
/-- nine cells hold this item -/
def Cells9 (w : World) (b o : Nat) (p : Pk) : Prop :=
  w.cell? ⟨b, o, none⟩ = some (.int .i64 p.w) ∧ w.cell? ⟨b, o + 1, none⟩ = some (.int .i64 p.h) ∧ w.cell? ⟨b, o + 2, none⟩ = some (.int .i64 p.s) ∧ w.cell? ⟨b, o + 3, none⟩ = some (.bool p.fx) ∧ w.cell? ⟨b, o + 4, none⟩ = some (.bool p.fy) ∧
  w.cell? ⟨b, o + 5, none⟩ = some (.bool p.ex) ∧ w.cell? ⟨b, o + 6, none⟩ = some (.int .i64 p.an) ∧ w.cell? ⟨b, o + 7, none⟩ = some (.int .i64 p.px) ∧ w.cell? ⟨b, o + 8, none⟩ = some (.int .i64 p.py)
def PS (w : World) (b off : Nat) (L : List Pk) : Prop := ∀ i p, L[i]? = some p → Cells9 w b (off + i * 9) p
/-- a slice that reads as this list of items -/
structure PV (w : World) (A : Option Addr) (L : List Pk) : Prop where
  cells : 0 < L.length → ∃ b off, A = some ⟨b, off, none⟩ ∧ b < w.heap.size ∧ PS w b off L
theorem Cells9.keep {w w' : World} {b o : Nat} {p : Pk} (h : Cells9 w b o p) (hb : w'.heap[b]? = w.heap[b]?) : Cells9 w' b o p := by
  have e : ∀ i, w'.cell? ⟨b, i, none⟩ = w.cell? ⟨b, i, none⟩ := fun i => World.cell?_of_block (a := ⟨b, i, none⟩) hb
  unfold Cells9 at *
  simpa only [e] using h
theorem PV.keep {w w' : World} {A : Option Addr} {L : List Pk} (h : PV w A L) (hb : Below w.heap.size w w') : PV w' A L :=
  ⟨fun h0 => let ⟨b, off, e, hl, hp⟩ := h.cells h0; ⟨b, off, e, Nat.lt_of_lt_of_le hl hb.size, fun i p hi => (hp i p hi).keep (hb.block b hl)⟩⟩
theorem svp_v (p : Pk) (b : Bool) (h : p.ok = b) (w : World) : Calls Tryd.prog 33 #[.agg #[.int .i64 p.w, .int .i64 p.h, .int .i64 p.s, .bool p.fx, .bool p.fy, .bool p.ex, .int .i64 p.an, .int .i64 p.px, .int .i64 p.py]] w fun e w' => e = .returned (.bool b) ∧ Below w.heap.size w w' := by
  rw [← h]; exact specValidPack_any _ _ _ _ _ _ _ _ _ _
theorem vp_v (p : Pk) (b : Bool) (h : p.ok = b) (w : World) : Calls Tryd.prog 21 #[.agg #[.int .i64 p.w, .int .i64 p.h, .int .i64 p.s, .bool p.fx, .bool p.fy, .bool p.ex, .int .i64 p.an, .int .i64 p.px, .int .i64 p.py]] w fun e w' => e = .returned (.bool b) ∧ Below w.heap.size w w' := by
  rw [← h]; exact validPack_any _ _ _ _ _ _ _ _ _ _
end Go.Proofs.YtjfdmdmlgdgchaaDoor
end
section
namespace Go.Proofs.YtjfdmdmlgdgchaaDoor
open Go.RowKit
set_option linter.unusedVariables false
set_option maxHeartbeats 2000000
def isR (lo hi : Int) : Value → Bool | .int .i64 z => decide (lo ≤ z) && decide (z ≤ hi) | _ => false
theorem isR_ex {lo hi : Int} {v : Value} (h : isR lo hi v = true) : ∃ z, v = .int .i64 z ∧ lo ≤ z ∧ z ≤ hi := by
  unfold isR at h
  split at h
  · rename_i z
    simp at h
    exact ⟨z, rfl, h⟩
  · cases h
def TLR (lo hi : Int) (B : Nat) (S : List Nat) (k : Nat) : Value → World → Prop := fun v w => ∃ g, v = .slice (some ⟨g, 0, none⟩) k k ∧ B ≤ g ∧ g ∉ S ∧ g < w.heap.size ∧ ∀ i, i < k → ∃ z, w.cell? ⟨g, i, none⟩ = some (.int .i64 z) ∧ lo ≤ z ∧ z ≤ hi
theorem TLR.lit {lo hi : Int} {B : Nat} {S : List Nat} {k : Nat} {w : World} {cs : Array Value} {T : TypeId} (hB : B ≤ w.heap.size) (hS : ∀ x ∈ S, x < w.heap.size) (hk : cs.size = k) (ha : cs.toList.all (isR lo hi) = true) :
    TLR lo hi B S k (.slice (some ⟨w.heap.size, 0, none⟩) k k) (w.alloc (.cells cs T)) :=
  ⟨w.heap.size, rfl, hB, fun h => absurd (hS _ h) (by omega), by simp, fun i hi => by
    rw [cell_of_heap (heap_alloc_new w _) i]
    have hi' : i < cs.size := by omega
    rw [Array.getElem?_eq_getElem hi']
    have := List.all_eq_true.1 ha cs[i] (by simp)
    obtain ⟨z, hz, h1, h2⟩ := isR_ex this
    exact ⟨z, by rw [hz], h1, h2⟩⟩
theorem one_anyR {lo hi : Int} {B rb : Nat} {A : Option Addr} {l c m k : Nat} {v : Value} (w : World) (h : Rd B rb A l c m w) (hm : m ≤ 1000000) (hT : TLR lo hi B [rb] k v w) (hk : 1 ≤ k) (hk2 : k ≤ 100) :
    Calls Tryd.prog 55 #[.pointer (some ⟨rb, 0, none⟩), v] w fun e w' => (∃ z, e = .returned (.int .i64 z) ∧ Hid (lo ≤ z ∧ z ≤ hi)) ∧ Rd B rb A l c (m + 1) w' ∧ Chg [rb] w w' := by
  obtain ⟨g, rfl, hg1, hg2, hg3, hg4⟩ := hT
  go_enter Tryd.func55, Tryd.ntmps55
  go_wp2_with fail
  refine (pick_any _ _ h hm).mono ?_
  rintro e w1 ⟨⟨v, rfl, hv⟩, hr, hc⟩
  obtain ⟨v0, v1⟩ := hv (by omega)
  obtain ⟨j, rfl⟩ := Int.eq_ofNat_of_zero_le v0
  obtain ⟨z, hz, hlo, hhi⟩ := hg4 j (by omega)
  have hz' := (hc.cell (p := ⟨g, j, none⟩) hg3 hg2).trans hz
  have hjk : j < k := by omega
  have Hr := Lib.hid hr
  have Hc := Lib.hid hc
  have HZ := Lib.hid (And.intro hlo hhi)
  clear hr hc hv hz hg4 h hlo hhi
  go_wp2
  go_ret
  exact ⟨⟨_, rfl, HZ⟩, Hr.out, Hc.out⟩
theorem one_litR (lo hi : Int) {B rb : Nat} {A : Option Addr} {l c m k : Nat} {cs : Array Value} {T : TypeId} (w : World) (h : Rd B rb A l c m w) (hm : m ≤ 1000000) (hk : cs.size = k) (h1 : 1 ≤ k) (h2 : k ≤ 100) (ha : cs.toList.all (isR lo hi) = true) :
    Calls Tryd.prog 55 #[.pointer (some ⟨rb, 0, none⟩), .slice (some ⟨w.heap.size, 0, none⟩) k k] (w.alloc (.cells cs T)) fun e w' => (∃ z, e = .returned (.int .i64 z) ∧ Hid (lo ≤ z ∧ z ≤ hi)) ∧ Rd B rb A l c (m + 1) w' ∧ Chg [rb] w w' :=
  (one_anyR _ (h.alloc _) hm (TLR.lit (by have := h.lt; have := h.base; omega) (by have := h.lt; simpa using this) hk ha) h1 h2).mono fun e w' ⟨h1, h2, h3⟩ => ⟨h1, h2, ((Chg.refl _ _).alloc _).trans h3⟩
set_option maxRecDepth 100000 in
theorem goodPackB {B rb : Nat} {A : Option Addr} {l c m : Nat} (w : World) (h : Rd B rb A l c m w) (hm : m ≤ 900000) :
    Calls Tryd.prog 35 #[.pointer (some ⟨rb, 0, none⟩)] w fun e w' => (∃ (w0 h0 s : Int) (fx fy ex : Bool) (an px py : Int), vpB w0 h0 s an px py = true ∧ e = .returned (.agg #[.int .i64 w0, .int .i64 h0, .int .i64 s, .bool fx, .bool fy, .bool ex, .int .i64 an, .int .i64 px, .int .i64 py])) ∧ Rd B rb A l c (m + 20) w' ∧ Chg [rb] w w' := by
  have hlt := h.lt
  have hbase := h.base
  go_enter Tryd.func35, Tryd.ntmps35
  go_wp2_with fail
  with_reducible refine (pick_any _ _ (h.alloc _) (by omega)).mono ?_
  rintro e w1 ⟨⟨z1, rfl, b1⟩, hr1, hc1⟩
  have B1 := Lib.hid (b1 (by omega))
  clear b1
  go_wp2_with fail
  have bb := B1.out
  with_reducible refine (one_litR 0 30 _ hr1 (by omega) (by simp) (by omega) (by omega) (by simp [isR]; omega)).mono ?_
  clear bb
  rintro e w2 ⟨⟨z2, rfl, B2⟩, hr2, hc2⟩
  go_wp2_with fail
  with_reducible refine (pick_any _ _ hr2 (by omega)).mono ?_
  rintro e w3 ⟨⟨z3, rfl, b3⟩, hr3, hc3⟩
  have B3 := Lib.hid (b3 (by omega))
  clear b3
  go_wp2_with fail
  have bb := B3.out
  with_reducible refine (one_litR 0 30 _ hr3 (by omega) (by simp) (by omega) (by omega) (by simp [isR]; omega)).mono ?_
  clear bb
  rintro e w4 ⟨⟨z4, rfl, B4⟩, hr4, hc4⟩
  go_wp2_with fail
  with_reducible refine (pick_any _ _ hr4 (by omega)).mono ?_
  rintro e w5 ⟨⟨z5, rfl, b5⟩, hr5, hc5⟩
  have B5 := Lib.hid (b5 (by omega))
  clear b5
  go_wp2_with fail
  with_reducible refine (pick_any _ _ hr5 (by omega)).mono ?_
  rintro e w6 ⟨⟨z6, rfl, b6⟩, hr6, hc6⟩
  have B6 := Lib.hid (b6 (by omega))
  clear b6
  go_wp2_with fail
  have bb := B6.out
  with_reducible refine (one_litR 0 8 _ hr6 (by omega) (by simp) (by omega) (by omega) (by simp [isR]; omega)).mono ?_
  clear bb
  rintro e w7 ⟨⟨z7, rfl, B7⟩, hr7, hc7⟩
  have hc : Chg [rb] (w.alloc _) w7 := ((((((hc1).trans hc2).trans hc3).trans hc4).trans hc5).trans hc6).trans hc7
  clear hc1 hc2 hc3 hc4 hc5 hc6 hc7 hr1 hr2 hr3 hr4 hr5 hr6
  have hb0 := (hc.block w.heap.size (by simp) (by simp; omega)).trans (heap_alloc_new w _)
  have hs := hc.size
  simp only [World.size_alloc] at hs
  have HC := Lib.hid (((Chg.refl [rb] w).alloc _).trans hc)
  have hl7 := hr7.lt
  have hx0 := Nat.lt_of_succ_le hs
  have hn0 : w.heap.size ≠ rb := by omega
  have hB0 : B ≤ w.heap.size := by omega
  have hn1 : w7.heap.size ≠ rb := by omega
  have hB1 : B ≤ w7.heap.size := by omega
  have hn01 : w.heap.size ≠ w7.heap.size := by omega
  have hn10 : ¬ w7.heap.size = w.heap.size := by omega
  have hw1 : w.heap.size ≤ w7.heap.size := by omega
  clear hc hlt hbase hs hl7
  have hb1 := heap_alloc_new w7 (.cells #[.int .i64 z2, .int .i64 z4, .int .i64 z5, .bool false, .bool false, .bool false, .int .i64 z7, .int .i64 0, .int .i64 0] 23)
  replace hb0 := (Below.heap_alloc w7 (.cells #[.int .i64 z2, .int .i64 z4, .int .i64 z5, .bool false, .bool false, .bool false, .int .i64 z7, .int .i64 0, .int .i64 0] 23) w.heap.size hx0).trans hb0
  have HB0 := Lib.hid hb0
  have HB1 := Lib.hid hb1
  replace HC := Lib.hid (HC.out.alloc (.cells #[.int .i64 z2, .int .i64 z4, .int .i64 z5, .bool false, .bool false, .bool false, .int .i64 z7, .int .i64 0, .int .i64 0] 23))
  have HR := Lib.hid (hr7.alloc (.cells #[.int .i64 z2, .int .i64 z4, .int .i64 z5, .bool false, .bool false, .bool false, .int .i64 z7, .int .i64 0, .int .i64 0] 23))
  clear hb0 hb1 hr7
  have hz0 : w.heap.size < (w7.alloc (.cells #[.int .i64 z2, .int .i64 z4, .int .i64 z5, .bool false, .bool false, .bool false, .int .i64 z7, .int .i64 0, .int .i64 0] 23)).heap.size := by simp; omega
  have hz1 : w7.heap.size < (w7.alloc (.cells #[.int .i64 z2, .int .i64 z4, .int .i64 z5, .bool false, .bool false, .bool false, .int .i64 z7, .int .i64 0, .int .i64 0] 23)).heap.size := by simp
  have HZ0 := Lib.hid hz0
  have HZ1 := Lib.hid hz1
  clear hz0 hz1
  go_wp2_with fail
  with_reducible refine (pick_any _ _ HR.out (by omega)).mono ?_
  rintro e w8 ⟨⟨z8, rfl, b8⟩, hr8, hc8⟩
  have B8 := Lib.hid (b8 (by omega))
  clear b8
  have h0 := (hc8.block _ HZ0.out (by simpa using hn0)).trans HB0.out
  have h1 := (hc8.block _ HZ1.out (by simpa using hn1)).trans HB1.out
  have c3 := cellH h1 3
  have f3 := frozen_of_heap h1 3
  simp at c3
  replace HB0 := Lib.hid ((Below.heap_setCell w8 ⟨w7.heap.size, 3, none⟩ (.bool (z8 == 0)) _ hn01).trans h0)
  have hp1 := put1h (i := 3) h1 (.bool (z8 == 0))
  simp only [List.setIfInBounds_toArray, List.set_cons_succ, List.set_cons_zero] at hp1
  replace HB1 := Lib.hid hp1
  replace HC := Lib.hid ((HC.out.trans hc8).setCell (p := ⟨w7.heap.size, 3, none⟩) (.inr hw1) (.bool (z8 == 0)))
  replace HR := Lib.hid (hr8.setCell (p := ⟨w7.heap.size, 3, none⟩) hB1 hn1 (.bool (z8 == 0)))
  replace HZ0 := Lib.hid (show w.heap.size < (w8.setCell ⟨w7.heap.size, 3, none⟩ (.bool (z8 == 0))).heap.size from by simpa [World.setCell] using Nat.lt_of_lt_of_le HZ0.out hc8.size)
  replace HZ1 := Lib.hid (show w7.heap.size < (w8.setCell ⟨w7.heap.size, 3, none⟩ (.bool (z8 == 0))).heap.size from by simpa [World.setCell] using Nat.lt_of_lt_of_le HZ1.out hc8.size)
  clear h0 h1 hr8 hc8 hp1
  go_wp2_with fail
  with_reducible refine (pick_any _ _ HR.out (by omega)).mono ?_
  rintro e w9 ⟨⟨z9, rfl, b9⟩, hr9, hc9⟩
  have B9 := Lib.hid (b9 (by omega))
  clear b9
  clear c3 f3
  have h0 := (hc9.block _ HZ0.out (by simpa using hn0)).trans HB0.out
  have h1 := (hc9.block _ HZ1.out (by simpa using hn1)).trans HB1.out
  have c4 := cellH h1 4
  have f4 := frozen_of_heap h1 4
  simp at c4
  replace HB0 := Lib.hid ((Below.heap_setCell w9 ⟨w7.heap.size, 4, none⟩ (.bool (z9 == 0)) _ hn01).trans h0)
  have hp1 := put1h (i := 4) h1 (.bool (z9 == 0))
  simp only [List.setIfInBounds_toArray, List.set_cons_succ, List.set_cons_zero] at hp1
  replace HB1 := Lib.hid hp1
  replace HC := Lib.hid ((HC.out.trans hc9).setCell (p := ⟨w7.heap.size, 4, none⟩) (.inr hw1) (.bool (z9 == 0)))
  replace HR := Lib.hid (hr9.setCell (p := ⟨w7.heap.size, 4, none⟩) hB1 hn1 (.bool (z9 == 0)))
  replace HZ0 := Lib.hid (show w.heap.size < (w9.setCell ⟨w7.heap.size, 4, none⟩ (.bool (z9 == 0))).heap.size from by simpa [World.setCell] using Nat.lt_of_lt_of_le HZ0.out hc9.size)
  replace HZ1 := Lib.hid (show w7.heap.size < (w9.setCell ⟨w7.heap.size, 4, none⟩ (.bool (z9 == 0))).heap.size from by simpa [World.setCell] using Nat.lt_of_lt_of_le HZ1.out hc9.size)
  clear h0 h1 hr9 hc9 hp1
  go_wp2_with fail
  with_reducible refine (pick_any _ _ HR.out (by omega)).mono ?_
  rintro e w10 ⟨⟨z10, rfl, b10⟩, hr10, hc10⟩
  have B10 := Lib.hid (b10 (by omega))
  clear b10
  clear c4 f4
  have h0 := (hc10.block _ HZ0.out (by simpa using hn0)).trans HB0.out
  have h1 := (hc10.block _ HZ1.out (by simpa using hn1)).trans HB1.out
  have c5 := cellH h1 5
  have f5 := frozen_of_heap h1 5
  simp at c5
  replace HB0 := Lib.hid ((Below.heap_setCell w10 ⟨w7.heap.size, 5, none⟩ (.bool (z10 == 0)) _ hn01).trans h0)
  have hp1 := put1h (i := 5) h1 (.bool (z10 == 0))
  simp only [List.setIfInBounds_toArray, List.set_cons_succ, List.set_cons_zero] at hp1
  replace HB1 := Lib.hid hp1
  replace HC := Lib.hid ((HC.out.trans hc10).setCell (p := ⟨w7.heap.size, 5, none⟩) (.inr hw1) (.bool (z10 == 0)))
  replace HR := Lib.hid (hr10.setCell (p := ⟨w7.heap.size, 5, none⟩) hB1 hn1 (.bool (z10 == 0)))
  replace HZ0 := Lib.hid (show w.heap.size < (w10.setCell ⟨w7.heap.size, 5, none⟩ (.bool (z10 == 0))).heap.size from by simpa [World.setCell] using Nat.lt_of_lt_of_le HZ0.out hc10.size)
  replace HZ1 := Lib.hid (show w7.heap.size < (w10.setCell ⟨w7.heap.size, 5, none⟩ (.bool (z10 == 0))).heap.size from by simpa [World.setCell] using Nat.lt_of_lt_of_le HZ1.out hc10.size)
  clear h0 h1 hr10 hc10 hp1
  go_wp2_with fail
  with_reducible refine (pick_any _ _ HR.out (by omega)).mono ?_
  rintro e w11 ⟨⟨q, rfl, b11⟩, hr11, hc11⟩
  have B11 := Lib.hid (b11 (by omega))
  clear b11
  clear c5 f5
  replace HB0 := Lib.hid ((hc11.block _ HZ0.out (by simpa using hn0)).trans HB0.out)
  replace HB1 := Lib.hid ((hc11.block _ HZ1.out (by simpa using hn1)).trans HB1.out)
  replace HC := Lib.hid (HC.out.trans hc11)
  replace HR := Lib.hid hr11
  replace HZ0 := Lib.hid (Nat.lt_of_lt_of_le HZ0.out hc11.size)
  replace HZ1 := Lib.hid (Nat.lt_of_lt_of_le HZ1.out hc11.size)
  clear hr11 hc11
  by_cases hq : q = 0
  · subst hq
    go_wp2_with fail
    with_reducible refine (pick_any _ _ HR.out (by omega)).mono ?_
    rintro e w12 ⟨⟨z12, rfl, b12⟩, hr12, hc12⟩
    have B12 := Lib.hid (b12 (by omega))
    clear b12
    have h0 := (hc12.block _ HZ0.out (by simpa using hn0)).trans HB0.out
    have h1 := (hc12.block _ HZ1.out (by simpa using hn1)).trans HB1.out
    have c7 := cellH h1 7
    have f7 := frozen_of_heap h1 7
    simp at c7
    replace HB0 := Lib.hid ((Below.heap_setCell w12 ⟨w7.heap.size, 7, none⟩ (.int .i64 z12) _ hn01).trans h0)
    have hp1 := put1h (i := 7) h1 (.int .i64 z12)
    simp only [List.setIfInBounds_toArray, List.set_cons_succ, List.set_cons_zero] at hp1
    replace HB1 := Lib.hid hp1
    replace HC := Lib.hid ((HC.out.trans hc12).setCell (p := ⟨w7.heap.size, 7, none⟩) (.inr hw1) (.int .i64 z12))
    replace HR := Lib.hid (hr12.setCell (p := ⟨w7.heap.size, 7, none⟩) hB1 hn1 (.int .i64 z12))
    replace HZ0 := Lib.hid (show w.heap.size < (w12.setCell ⟨w7.heap.size, 7, none⟩ (.int .i64 z12)).heap.size from by simpa [World.setCell] using Nat.lt_of_lt_of_le HZ0.out hc12.size)
    replace HZ1 := Lib.hid (show w7.heap.size < (w12.setCell ⟨w7.heap.size, 7, none⟩ (.int .i64 z12)).heap.size from by simpa [World.setCell] using Nat.lt_of_lt_of_le HZ1.out hc12.size)
    clear h0 h1 hr12 hc12 hp1
    go_wp2_with fail
    with_reducible refine (pick_any _ _ HR.out (by omega)).mono ?_
    rintro e w13 ⟨⟨z13, rfl, b13⟩, hr13, hc13⟩
    have B13 := Lib.hid (b13 (by omega))
    clear b13
    clear c7 f7
    have h0 := (hc13.block _ HZ0.out (by simpa using hn0)).trans HB0.out
    have h1 := (hc13.block _ HZ1.out (by simpa using hn1)).trans HB1.out
    have c8 := cellH h1 8
    have f8 := frozen_of_heap h1 8
    simp at c8
    replace HB0 := Lib.hid ((Below.heap_setCell w13 ⟨w7.heap.size, 8, none⟩ (.int .i64 z13) _ hn01).trans h0)
    have hp1 := put1h (i := 8) h1 (.int .i64 z13)
    simp only [List.setIfInBounds_toArray, List.set_cons_succ, List.set_cons_zero] at hp1
    replace HB1 := Lib.hid hp1
    replace HC := Lib.hid ((HC.out.trans hc13).setCell (p := ⟨w7.heap.size, 8, none⟩) (.inr hw1) (.int .i64 z13))
    replace HR := Lib.hid (hr13.setCell (p := ⟨w7.heap.size, 8, none⟩) hB1 hn1 (.int .i64 z13))
    replace HZ0 := Lib.hid (show w.heap.size < (w13.setCell ⟨w7.heap.size, 8, none⟩ (.int .i64 z13)).heap.size from by simpa [World.setCell] using Nat.lt_of_lt_of_le HZ0.out hc13.size)
    replace HZ1 := Lib.hid (show w7.heap.size < (w13.setCell ⟨w7.heap.size, 8, none⟩ (.int .i64 z13)).heap.size from by simpa [World.setCell] using Nat.lt_of_lt_of_le HZ1.out hc13.size)
    clear h0 h1 hr13 hc13 hp1
    have h0 := HB0.out
    have h1 := HB1.out
    obtain ⟨c0, c1, c2, c3, c4, c5, c6, c7, c8⟩ := b9c h1
    obtain ⟨d0, d1, d2, d3, d4, d5, d6, d7, d8⟩ := b9c h0
    obtain ⟨f0, f1, f2, f3, f4, f5, f6, f7, f8⟩ := b9f h0
    clear h0 h1
    go_wp2
    refine bp_gen (fun W => W.heap[w.heap.size]? = some (.cells #[.int .i64 z2, .int .i64 z4, .int .i64 z5, .bool (z8 == 0), .bool (z9 == 0), .bool (z10 == 0), .int .i64 z7, .int .i64 z12, .int .i64 z13] 23) ∧ Rd B rb A l c (m + 20) W ∧ Chg [rb] w W) ⟨put9h HB0.out (.int .i64 z2) (.int .i64 z4) (.int .i64 z5) (.bool (z8 == 0)) (.bool (z9 == 0)) (.bool (z10 == 0)) (.int .i64 z7) (.int .i64 z12) (.int .i64 z13), put9r (HR.out.mono (by omega)) hB0 hn0 (.int .i64 z2) (.int .i64 z4) (.int .i64 z5) (.bool (z8 == 0)) (.bool (z9 == 0)) (.bool (z10 == 0)) (.int .i64 z7) (.int .i64 z12) (.int .i64 z13), put9c HC.out (.inr (Nat.le_refl _)) (.int .i64 z2) (.int .i64 z4) (.int .i64 z5) (.bool (z8 == 0)) (.bool (z9 == 0)) (.bool (z10 == 0)) (.int .i64 z7) (.int .i64 z12) (.int .i64 z13)⟩ ?_
    clear HB0 HB1 HC HR c0 c1 c2 c3 c4 c5 c6 c7 c8 d0 d1 d2 d3 d4 d5 d6 d7 d8 f0 f1 f2 f3 f4 f5 f6 f7 f8
    rintro W ⟨h0, hR, hC⟩
    obtain ⟨d0, d1, d2, d3, d4, d5, d6, d7, d8⟩ := b9c h0
    have hok : vpB z2 z4 z5 z7 z12 z13 = true := by
      have aB2 := B2.out
      have aB4 := B4.out
      have aB5 := B5.out
      have aB7 := B7.out
      have aB12 := B12.out
      have aB13 := B13.out
      exact vpB_iff.2 (by omega)
    exact bodyPost_ret (v := .agg #[.int .i64 z2, .int .i64 z4, .int .i64 z5, .bool (z8 == 0), .bool (z9 == 0), .bool (z10 == 0), .int .i64 z7, .int .i64 z12, .int .i64 z13]) (by simp only [results, Tryd.results35]; go_simp) rfl ⟨⟨_, _, _, _, _, _, _, _, _, hok, rfl⟩, hR, hC⟩
  · have hq1 : (q == 0) = false := by simpa using hq
    have h0 := HB0.out
    have h1 := HB1.out
    obtain ⟨c0, c1, c2, c3, c4, c5, c6, c7, c8⟩ := b9c h1
    obtain ⟨d0, d1, d2, d3, d4, d5, d6, d7, d8⟩ := b9c h0
    obtain ⟨f0, f1, f2, f3, f4, f5, f6, f7, f8⟩ := b9f h0
    clear h0 h1
    go_wp2
    refine bp_gen (fun W => W.heap[w.heap.size]? = some (.cells #[.int .i64 z2, .int .i64 z4, .int .i64 z5, .bool (z8 == 0), .bool (z9 == 0), .bool (z10 == 0), .int .i64 z7, .int .i64 0, .int .i64 0] 23) ∧ Rd B rb A l c (m + 20) W ∧ Chg [rb] w W) ⟨put9h HB0.out (.int .i64 z2) (.int .i64 z4) (.int .i64 z5) (.bool (z8 == 0)) (.bool (z9 == 0)) (.bool (z10 == 0)) (.int .i64 z7) (.int .i64 0) (.int .i64 0), put9r (HR.out.mono (by omega)) hB0 hn0 (.int .i64 z2) (.int .i64 z4) (.int .i64 z5) (.bool (z8 == 0)) (.bool (z9 == 0)) (.bool (z10 == 0)) (.int .i64 z7) (.int .i64 0) (.int .i64 0), put9c HC.out (.inr (Nat.le_refl _)) (.int .i64 z2) (.int .i64 z4) (.int .i64 z5) (.bool (z8 == 0)) (.bool (z9 == 0)) (.bool (z10 == 0)) (.int .i64 z7) (.int .i64 0) (.int .i64 0)⟩ ?_
    clear HB0 HB1 HC HR c0 c1 c2 c3 c4 c5 c6 c7 c8 d0 d1 d2 d3 d4 d5 d6 d7 d8 f0 f1 f2 f3 f4 f5 f6 f7 f8
    rintro W ⟨h0, hR, hC⟩
    obtain ⟨d0, d1, d2, d3, d4, d5, d6, d7, d8⟩ := b9c h0
    have hok : vpB z2 z4 z5 z7 0 0 = true := by
      have aB2 := B2.out
      have aB4 := B4.out
      have aB5 := B5.out
      have aB7 := B7.out
      exact vpB_iff.2 (by omega)
    exact bodyPost_ret (v := .agg #[.int .i64 z2, .int .i64 z4, .int .i64 z5, .bool (z8 == 0), .bool (z9 == 0), .bool (z10 == 0), .int .i64 z7, .int .i64 0, .int .i64 0]) (by simp only [results, Tryd.results35]; go_simp) rfl ⟨⟨_, _, _, _, _, _, _, _, _, hok, rfl⟩, hR, hC⟩
end Go.Proofs.YtjfdmdmlgdgchaaDoor
end
section
namespace Go.Proofs.YtjfdmdmlgdgchaaDoor
open Go.RowKit
set_option linter.unusedVariables false
set_option maxHeartbeats 1000000
/-! Texts: a value that is a text; numbers in decimal (spec.number). -/
def tx (l : List UInt8) : Value := .string ⟨l.toArray⟩
theorem tx_of (c : Array UInt8) : Value.string ⟨c⟩ = tx c.toList := rfl
theorem run_cat (a b : List UInt8) (w : World) (h : a.length + b.length ≤ 9223372036854775807) : (binOp .add 9 (tx a) (tx b)).run Tryd.prog w = .ok (tx (a ++ b)) w := by
  unfold tx
  go_simp
  rw [if_neg (by omega)]
  congr 2
theorem cat_ex (a b : List UInt8) (h : a.length + b.length ≤ 9223372036854775807) : ∃ c, c = a ++ b ∧ ∀ w, (binOp .add 9 (tx a) (tx b)).run Tryd.prog w = .ok (tx c) w := ⟨_, rfl, fun w => run_cat a b w h⟩
theorem cat_exr (a : List UInt8) (b : Array UInt8) (h : a.length + b.size ≤ 9223372036854775807) : ∃ c, c = a ++ b.toList ∧ ∀ w, (binOp .add 9 (tx a) (.string ⟨b⟩)).run Tryd.prog w = .ok (tx c) w := ⟨_, rfl, fun w => run_cat a b.toList w (by simpa using h)⟩
theorem cat_exl (a : Array UInt8) (b : List UInt8) (h : a.size + b.length ≤ 9223372036854775807) : ∃ c, c = a.toList ++ b ∧ ∀ w, (binOp .add 9 (.string ⟨a⟩) (tx b)).run Tryd.prog w = .ok (tx c) w := ⟨_, rfl, fun w => run_cat a.toList b w (by simpa using h)⟩
theorem eqg_tx (o : BinOp) (s t : Operand) (a b : List UInt8) (w : World) : (eqGuard o 9 s t (tx a) (tx b)).run Tryd.prog w = .ok () w := by
  unfold tx
  cases o <;> go_simp
theorem ne_same (a : List UInt8) (w : World) : (binOp .neq 9 (tx a) (tx a)).run Tryd.prog w = .ok (.bool false) w := by
  unfold tx
  go_simp
theorem eq_same (a : List UInt8) (w : World) : (binOp .eql 9 (tx a) (tx a)).run Tryd.prog w = .ok (.bool true) w := by
  unfold tx
  go_simp
theorem dec_len (m : Nat) : (Lib.decDigits m).length ≤ m + 1 := by
  induction m using Nat.strongRecOn with
  | _ m ih =>
    rw [Lib.decDigits]
    split
    · simp
    · have := ih (m / 10) (by omega)
      simp
      omega
set_option maxRecDepth 100000 in
theorem numN (m : Nat) : m < 1000000000000000 → ∀ w, Calls Tryd.prog 64 #[.int .i64 m] w fun e w' => e = .returned (tx (Lib.decDigits m)) ∧ w = w' := by
  induction m using Nat.strongRecOn with
  | _ m ih =>
    intro hm w
    have hn : decide ((m : Int) < 0) = false := by simp
    by_cases h : m < 10
    · have hd : decide ((m : Int) < 10) = true := by simp; omega
      have h10 : m = 0 ∨ m = 1 ∨ m = 2 ∨ m = 3 ∨ m = 4 ∨ m = 5 ∨ m = 6 ∨ m = 7 ∨ m = 8 ∨ m = 9 := by omega
      rw [Lib.decDigits, dif_pos h]
      clear ih h hm
      rcases h10 with rfl | rfl | rfl | rfl | rfl | rfl | rfl | rfl | rfl | rfl
      all_goals
        go_enter Tryd.func64, Tryd.ntmps64
        go_wp2
        go_ret
        exact ⟨rfl, rfl⟩
    · have hd : decide ((m : Int) < 10) = false := by simp; omega
      have h1 := ih (m / 10) (by omega) (by omega)
      have h2 := ih (m % 10) (by omega) (by omega)
      have e1 : (m : Int).tdiv 10 = ((m / 10 : Nat) : Int) := by rw [Int.tdiv_eq_ediv_of_nonneg (by omega)]; omega
      have e2 : (m : Int).tmod 10 = ((m % 10 : Nat) : Int) := by rw [Int.tmod_eq_emod_of_nonneg (by omega)]; omega
      have w1 : IntKind.i64.wrap ((m / 10 : Nat) : Int) = ((m / 10 : Nat) : Int) := IntWalk.i64_in _ (by omega)
      have w2 : IntKind.i64.wrap ((m % 10 : Nat) : Int) = ((m % 10 : Nat) : Int) := IntWalk.i64_in _ (by omega)
      have l1 := dec_len (m / 10)
      have l2 := dec_len (m % 10)
      obtain ⟨c, hc, g⟩ := cat_ex (Lib.decDigits (m / 10)) (Lib.decDigits (m % 10)) (by omega)
      have hr : c = Lib.decDigits m := by rw [hc, Lib.decDigits.eq_def m, dif_neg h, Lib.decDigits.eq_def (m % 10), dif_pos (by omega)]
      rw [← hr]
      generalize m / 10 = q1 at *
      generalize m % 10 = q2 at *
      clear hr hc l1 l2 ih
      go_enter Tryd.func64, Tryd.ntmps64
      go_wp2_with (first | (go_at_call 64; with_reducible refine (h1 _).mono ?_; rintro e w' ⟨rfl, rfl⟩) | (go_at_call 64; with_reducible refine (h2 _).mono ?_; rintro e w' ⟨rfl, rfl⟩))
      go_ret
      exact ⟨rfl, rfl⟩
end Go.Proofs.YtjfdmdmlgdgchaaDoor
end
section
namespace Go.Proofs.YtjfdmdmlgdgchaaDoor
open Go.ChangeShapes Go.WideShapes Go.ChangeAt Go.RowKit
/-! What the listed tables give: the powers of ten; and a world that holds them. -/
namespace LT
theorem gP : Tryd.prog.globalNamed "internal/strconv.uint64pow10" = some 3 := by kernel_rfl
theorem gPType : (Tryd.prog.globals[3]?).map (·.type) = some 105 := by kernel_rfl
theorem cellsP : Tryd.prog.cellsOf 105 = 20 := by kernel_rfl
theorem cellsU : Tryd.prog.cellsOf 95 = 1 := by kernel_rfl
theorem tail {P : Program} {W : World} {n : String} {d : DataW Unit} {r : List (String × DataW Unit)} (h : laidMet P ((n, d) :: r) W) : laidMet P r W := by
  obtain ⟨ps, ⟨g0, t0, cs0, f0, p0, q0, hg0, ht0, hv0, hd0, hr, e0⟩, hn, hrows⟩ := h
  subst e0
  exact ⟨q0, hr, (List.nodup_append.1 hn).2.1, fun b off hb => hrows b off (List.mem_append_right _ hb)⟩
/-- the powers of ten are there -/
def TW (w : World) : Prop := Lib.TabIs Tryd.prog w "internal/strconv.uint64pow10" .u64 Lib.pow10Tab
theorem TW.keep {w w' : World} (h : TW w) (hb : Below w.heap.size w w') : TW w' := by
  unfold TW Lib.TabIs World.var? at h ⊢
  rw [gP] at h ⊢
  simp only [Option.bind_some] at h ⊢
  have hlt : 3 < w.heap.size := by
    rcases Nat.lt_or_ge 3 w.heap.size with h' | h'
    · exact h'
    · rw [Array.getElem?_eq_none h'] at h; cases h
  rw [hb.block _ hlt]
  exact h
theorem opens3 {r : List (String × DataW Unit)} {W : World} (h : laidMet Tryd.prog (("math/bits.deBruijn32tab", Rows.laid_math_bits_deBruijn32tab) :: ("math/bits.deBruijn64tab", Rows.laid_math_bits_deBruijn64tab) :: ("internal/strconv.uint64pow10", Rows.laid_internal_strconv_uint64pow10) :: r) W) : TW W := by
  have h2 := tail (tail h)
  rw [show (Rows.laid_internal_strconv_uint64pow10 : DataW Unit) = Lib.tabData .u64 Lib.pow10Tab from by kernel_rfl] at h2
  exact Lib.tabIs_of_head gP gPType Tryd.underlying105 Tryd.underlying95 cellsU cellsP h2
noncomputable def world (os : Os) : World := World.doorLaid Tryd.prog 34 os
end LT
end Go.Proofs.YtjfdmdmlgdgchaaDoor
end
section
namespace Go.Proofs.YtjfdmdmlgdgchaaDoor
open Go.RowKit
/-- behind a region that draws its order -/
theorem bdrewn {W w' : World} (h : Below W.drew.heap.size W.drew w') : Below W.heap.size W w' := (Below.refl _ _).drew.trans h
end Go.Proofs.YtjfdmdmlgdgchaaDoor
end
