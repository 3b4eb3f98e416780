import Derived.Test.YtjfdmdmlgdgchaaDoorQ02
import Derived.Test.YtjfdmdmlgdgchaaDoorShl
import Derived.WalkKit
import Derived.Below
import Derived.Lib.ItoaNum
import Derived.Test.YtjfdmdmlgdgchaaDoorRows
import Derived.Test.YtjfdmdmlgdgchaaDoorTie
import Derived.Test.YtjfdmdmlgdgchaaDoorCards
import Derived.ProofKit
import Derived.LaidHandle
import Derived.LaidMore
import Derived.MakeChecks
import Derived.SevenTiedAt
import Derived.OpenShut
import Derived.Lib.LaidTab
import Derived.LoopTactic
import Derived.OwnWalk
import Derived.Lib.SmallJoins
import Derived.Lib.AppendIntMem
section
namespace Go.Proofs.YtjfdmdmlgdgchaaDoor
open Go.RowKit
set_option linter.unusedVariables false
set_option maxHeartbeats 2000000
theorem Bts.alloc' {w : World} {A : Option Addr} {n : Nat} (h : Bts w A n) (o : Obj) : Bts (w.alloc o) A n := h.alloc o
theorem put9h {w : World} {b : Nat} {a0 a1 a2 a3 a4 a5 a6 a7 a8 : Value} {T : TypeId} {fz : Nat × Nat} (h : w.heap[b]? = some (.cells #[a0, a1, a2, a3, a4, a5, a6, a7, a8] T fz)) (x0 x1 x2 x3 x4 x5 x6 x7 x8 : Value) :
    (((((((((w.setCell ⟨b, 0, none⟩ x0).setCell ⟨b, 1, none⟩ x1).setCell ⟨b, 2, none⟩ x2).setCell ⟨b, 3, none⟩ x3).setCell ⟨b, 4, none⟩ x4).setCell ⟨b, 5, none⟩ x5).setCell ⟨b, 6, none⟩ x6).setCell ⟨b, 7, none⟩ x7).setCell ⟨b, 8, none⟩ x8).heap[b]? = some (.cells #[x0, x1, x2, x3, x4, x5, x6, x7, x8] T fz) := by
  replace h := put1h (i := 0) h x0
  simp only [List.setIfInBounds_toArray, List.set_cons_zero] at h
  replace h := put1h (i := 1) h x1
  simp only [List.setIfInBounds_toArray, List.set_cons_succ, List.set_cons_zero] at h
  replace h := put1h (i := 2) h x2
  simp only [List.setIfInBounds_toArray, List.set_cons_succ, List.set_cons_zero] at h
  replace h := put1h (i := 3) h x3
  simp only [List.setIfInBounds_toArray, List.set_cons_succ, List.set_cons_zero] at h
  replace h := put1h (i := 4) h x4
  simp only [List.setIfInBounds_toArray, List.set_cons_succ, List.set_cons_zero] at h
  replace h := put1h (i := 5) h x5
  simp only [List.setIfInBounds_toArray, List.set_cons_succ, List.set_cons_zero] at h
  replace h := put1h (i := 6) h x6
  simp only [List.setIfInBounds_toArray, List.set_cons_succ, List.set_cons_zero] at h
  replace h := put1h (i := 7) h x7
  simp only [List.setIfInBounds_toArray, List.set_cons_succ, List.set_cons_zero] at h
  replace h := put1h (i := 8) h x8
  simp only [List.setIfInBounds_toArray, List.set_cons_succ, List.set_cons_zero] at h
  exact h
theorem put9c {S : List Nat} {a w : World} {b : Nat} (h : Chg S a w) (hb : b ∈ S ∨ a.heap.size ≤ b) (x0 x1 x2 x3 x4 x5 x6 x7 x8 : Value) : Chg S a (((((((((w.setCell ⟨b, 0, none⟩ x0).setCell ⟨b, 1, none⟩ x1).setCell ⟨b, 2, none⟩ x2).setCell ⟨b, 3, none⟩ x3).setCell ⟨b, 4, none⟩ x4).setCell ⟨b, 5, none⟩ x5).setCell ⟨b, 6, none⟩ x6).setCell ⟨b, 7, none⟩ x7).setCell ⟨b, 8, none⟩ x8) :=
  ((((((((h.setCell hb _).setCell hb _).setCell hb _).setCell hb _).setCell hb _).setCell hb _).setCell hb _).setCell hb _).setCell hb _
theorem put9r {B rb b : Nat} {A : Option Addr} {n c m : Nat} {w : World} (h : Rd B rb A n c m w) (h1 : B ≤ b) (h2 : b ≠ rb) (x0 x1 x2 x3 x4 x5 x6 x7 x8 : Value) : Rd B rb A n c m (((((((((w.setCell ⟨b, 0, none⟩ x0).setCell ⟨b, 1, none⟩ x1).setCell ⟨b, 2, none⟩ x2).setCell ⟨b, 3, none⟩ x3).setCell ⟨b, 4, none⟩ x4).setCell ⟨b, 5, none⟩ x5).setCell ⟨b, 6, none⟩ x6).setCell ⟨b, 7, none⟩ x7).setCell ⟨b, 8, none⟩ x8) :=
  ((((((((h.setCell h1 h2 _).setCell h1 h2 _).setCell h1 h2 _).setCell h1 h2 _).setCell h1 h2 _).setCell h1 h2 _).setCell h1 h2 _).setCell h1 h2 _).setCell h1 h2 _
theorem b9f {w : World} {b : Nat} {cs : Array Value} {T : TypeId} (h : w.heap[b]? = some (.cells cs T (0, 0))) : w.frozen? ⟨b, 0, none⟩ = false ∧ w.frozen? ⟨b, 1, none⟩ = false ∧ w.frozen? ⟨b, 2, none⟩ = false ∧ w.frozen? ⟨b, 3, none⟩ = false ∧ w.frozen? ⟨b, 4, none⟩ = false ∧ w.frozen? ⟨b, 5, none⟩ = false ∧ w.frozen? ⟨b, 6, none⟩ = false ∧ w.frozen? ⟨b, 7, none⟩ = false ∧ w.frozen? ⟨b, 8, none⟩ = false :=
  ⟨frozen_of_heap h 0, frozen_of_heap h 1, frozen_of_heap h 2, frozen_of_heap h 3, frozen_of_heap h 4, frozen_of_heap h 5, frozen_of_heap h 6, frozen_of_heap h 7, frozen_of_heap h 8⟩
set_option maxRecDepth 100000 in
theorem goodPack_any {B rb : Nat} {A : Option Addr} {l c m : Nat} (w : World) (h : Rd B rb A l c m w) (hm : m ≤ 900000) :
    Calls Tryd.prog 35 #[.pointer (some ⟨rb, 0, none⟩)] w fun e w' => (∃ (w0 h0 s : Int) (fx fy ex : Bool) (an px py : Int), e = .returned (.agg #[.int .i64 w0, .int .i64 h0, .int .i64 s, .bool fx, .bool fy, .bool ex, .int .i64 an, .int .i64 px, .int .i64 py])) ∧ Rd B rb A l c (m + 20) w' ∧ Chg [rb] w w' := by
  have hlt := h.lt
  have hbase := h.base
  go_enter Tryd.func35, Tryd.ntmps35
  go_wp2_with fail
  with_reducible refine (pick_any _ _ (h.alloc _) (by omega)).mono ?_
  rintro e w1 ⟨⟨z1, rfl, -⟩, hr1, hc1⟩
  go_wp2_with fail
  with_reducible refine (one_lit _ hr1 (by omega) (by simp) (by omega) (by omega) (by simp [isI])).mono ?_
  rintro e w2 ⟨⟨z2, rfl⟩, hr2, hc2⟩
  go_wp2_with fail
  with_reducible refine (pick_any _ _ hr2 (by omega)).mono ?_
  rintro e w3 ⟨⟨z3, rfl, -⟩, hr3, hc3⟩
  go_wp2_with fail
  with_reducible refine (one_lit _ hr3 (by omega) (by simp) (by omega) (by omega) (by simp [isI])).mono ?_
  rintro e w4 ⟨⟨z4, rfl⟩, hr4, hc4⟩
  go_wp2_with fail
  with_reducible refine (pick_any _ _ hr4 (by omega)).mono ?_
  rintro e w5 ⟨⟨z5, rfl, -⟩, hr5, hc5⟩
  go_wp2_with fail
  with_reducible refine (pick_any _ _ hr5 (by omega)).mono ?_
  rintro e w6 ⟨⟨z6, rfl, -⟩, hr6, hc6⟩
  go_wp2_with fail
  with_reducible refine (one_lit _ hr6 (by omega) (by simp) (by omega) (by omega) (by simp [isI])).mono ?_
  rintro e w7 ⟨⟨z7, rfl⟩, hr7, hc7⟩
  have hc : Chg [rb] (w.alloc _) w7 := ((((((hc1).trans hc2).trans hc3).trans hc4).trans hc5).trans hc6).trans hc7
  clear hc1 hc2 hc3 hc4 hc5 hc6 hc7 hr1 hr2 hr3 hr4 hr5 hr6
  have hb0 := (hc.block w.heap.size (by simp) (by simp; omega)).trans (heap_alloc_new w _)
  have hs := hc.size
  simp only [World.size_alloc] at hs
  have HC := Lib.hid (((Chg.refl [rb] w).alloc _).trans hc)
  have hl7 := hr7.lt
  have hx0 := Nat.lt_of_succ_le hs
  have hn0 : w.heap.size ≠ rb := by omega
  have hB0 : B ≤ w.heap.size := by omega
  have hn1 : w7.heap.size ≠ rb := by omega
  have hB1 : B ≤ w7.heap.size := by omega
  have hn01 : w.heap.size ≠ w7.heap.size := by omega
  have hn10 : ¬ w7.heap.size = w.heap.size := by omega
  have hw1 : w.heap.size ≤ w7.heap.size := by omega
  clear hc hlt hbase hs hl7
  have hb1 := heap_alloc_new w7 (.cells #[.int .i64 z2, .int .i64 z4, .int .i64 z5, .bool false, .bool false, .bool false, .int .i64 z7, .int .i64 0, .int .i64 0] 23)
  replace hb0 := (Below.heap_alloc w7 (.cells #[.int .i64 z2, .int .i64 z4, .int .i64 z5, .bool false, .bool false, .bool false, .int .i64 z7, .int .i64 0, .int .i64 0] 23) w.heap.size hx0).trans hb0
  have HB0 := Lib.hid hb0
  have HB1 := Lib.hid hb1
  replace HC := Lib.hid (HC.out.alloc (.cells #[.int .i64 z2, .int .i64 z4, .int .i64 z5, .bool false, .bool false, .bool false, .int .i64 z7, .int .i64 0, .int .i64 0] 23))
  have HR := Lib.hid (hr7.alloc (.cells #[.int .i64 z2, .int .i64 z4, .int .i64 z5, .bool false, .bool false, .bool false, .int .i64 z7, .int .i64 0, .int .i64 0] 23))
  clear hb0 hb1 hr7
  have hz0 : w.heap.size < (w7.alloc (.cells #[.int .i64 z2, .int .i64 z4, .int .i64 z5, .bool false, .bool false, .bool false, .int .i64 z7, .int .i64 0, .int .i64 0] 23)).heap.size := by simp; omega
  have hz1 : w7.heap.size < (w7.alloc (.cells #[.int .i64 z2, .int .i64 z4, .int .i64 z5, .bool false, .bool false, .bool false, .int .i64 z7, .int .i64 0, .int .i64 0] 23)).heap.size := by simp
  have HZ0 := Lib.hid hz0
  have HZ1 := Lib.hid hz1
  clear hz0 hz1
  go_wp2_with fail
  with_reducible refine (pick_any _ _ HR.out (by omega)).mono ?_
  rintro e w8 ⟨⟨z8, rfl, -⟩, hr8, hc8⟩
  have h0 := (hc8.block _ HZ0.out (by simpa using hn0)).trans HB0.out
  have h1 := (hc8.block _ HZ1.out (by simpa using hn1)).trans HB1.out
  have c3 := cellH h1 3
  have f3 := frozen_of_heap h1 3
  simp at c3
  replace HB0 := Lib.hid ((Below.heap_setCell w8 ⟨w7.heap.size, 3, none⟩ (.bool (z8 == 0)) _ hn01).trans h0)
  have hp1 := put1h (i := 3) h1 (.bool (z8 == 0))
  simp only [List.setIfInBounds_toArray, List.set_cons_succ, List.set_cons_zero] at hp1
  replace HB1 := Lib.hid hp1
  replace HC := Lib.hid ((HC.out.trans hc8).setCell (p := ⟨w7.heap.size, 3, none⟩) (.inr hw1) (.bool (z8 == 0)))
  replace HR := Lib.hid (hr8.setCell (p := ⟨w7.heap.size, 3, none⟩) hB1 hn1 (.bool (z8 == 0)))
  replace HZ0 := Lib.hid (show w.heap.size < (w8.setCell ⟨w7.heap.size, 3, none⟩ (.bool (z8 == 0))).heap.size from by simpa [World.setCell] using Nat.lt_of_lt_of_le HZ0.out hc8.size)
  replace HZ1 := Lib.hid (show w7.heap.size < (w8.setCell ⟨w7.heap.size, 3, none⟩ (.bool (z8 == 0))).heap.size from by simpa [World.setCell] using Nat.lt_of_lt_of_le HZ1.out hc8.size)
  clear h0 h1 hr8 hc8 hp1
  go_wp2_with fail
  with_reducible refine (pick_any _ _ HR.out (by omega)).mono ?_
  rintro e w9 ⟨⟨z9, rfl, -⟩, hr9, hc9⟩
  clear c3 f3
  have h0 := (hc9.block _ HZ0.out (by simpa using hn0)).trans HB0.out
  have h1 := (hc9.block _ HZ1.out (by simpa using hn1)).trans HB1.out
  have c4 := cellH h1 4
  have f4 := frozen_of_heap h1 4
  simp at c4
  replace HB0 := Lib.hid ((Below.heap_setCell w9 ⟨w7.heap.size, 4, none⟩ (.bool (z9 == 0)) _ hn01).trans h0)
  have hp1 := put1h (i := 4) h1 (.bool (z9 == 0))
  simp only [List.setIfInBounds_toArray, List.set_cons_succ, List.set_cons_zero] at hp1
  replace HB1 := Lib.hid hp1
  replace HC := Lib.hid ((HC.out.trans hc9).setCell (p := ⟨w7.heap.size, 4, none⟩) (.inr hw1) (.bool (z9 == 0)))
  replace HR := Lib.hid (hr9.setCell (p := ⟨w7.heap.size, 4, none⟩) hB1 hn1 (.bool (z9 == 0)))
  replace HZ0 := Lib.hid (show w.heap.size < (w9.setCell ⟨w7.heap.size, 4, none⟩ (.bool (z9 == 0))).heap.size from by simpa [World.setCell] using Nat.lt_of_lt_of_le HZ0.out hc9.size)
  replace HZ1 := Lib.hid (show w7.heap.size < (w9.setCell ⟨w7.heap.size, 4, none⟩ (.bool (z9 == 0))).heap.size from by simpa [World.setCell] using Nat.lt_of_lt_of_le HZ1.out hc9.size)
  clear h0 h1 hr9 hc9 hp1
  go_wp2_with fail
  with_reducible refine (pick_any _ _ HR.out (by omega)).mono ?_
  rintro e w10 ⟨⟨z10, rfl, -⟩, hr10, hc10⟩
  clear c4 f4
  have h0 := (hc10.block _ HZ0.out (by simpa using hn0)).trans HB0.out
  have h1 := (hc10.block _ HZ1.out (by simpa using hn1)).trans HB1.out
  have c5 := cellH h1 5
  have f5 := frozen_of_heap h1 5
  simp at c5
  replace HB0 := Lib.hid ((Below.heap_setCell w10 ⟨w7.heap.size, 5, none⟩ (.bool (z10 == 0)) _ hn01).trans h0)
  have hp1 := put1h (i := 5) h1 (.bool (z10 == 0))
  simp only [List.setIfInBounds_toArray, List.set_cons_succ, List.set_cons_zero] at hp1
  replace HB1 := Lib.hid hp1
  replace HC := Lib.hid ((HC.out.trans hc10).setCell (p := ⟨w7.heap.size, 5, none⟩) (.inr hw1) (.bool (z10 == 0)))
  replace HR := Lib.hid (hr10.setCell (p := ⟨w7.heap.size, 5, none⟩) hB1 hn1 (.bool (z10 == 0)))
  replace HZ0 := Lib.hid (show w.heap.size < (w10.setCell ⟨w7.heap.size, 5, none⟩ (.bool (z10 == 0))).heap.size from by simpa [World.setCell] using Nat.lt_of_lt_of_le HZ0.out hc10.size)
  replace HZ1 := Lib.hid (show w7.heap.size < (w10.setCell ⟨w7.heap.size, 5, none⟩ (.bool (z10 == 0))).heap.size from by simpa [World.setCell] using Nat.lt_of_lt_of_le HZ1.out hc10.size)
  clear h0 h1 hr10 hc10 hp1
  go_wp2_with fail
  with_reducible refine (pick_any _ _ HR.out (by omega)).mono ?_
  rintro e w11 ⟨⟨q, rfl, -⟩, hr11, hc11⟩
  clear c5 f5
  replace HB0 := Lib.hid ((hc11.block _ HZ0.out (by simpa using hn0)).trans HB0.out)
  replace HB1 := Lib.hid ((hc11.block _ HZ1.out (by simpa using hn1)).trans HB1.out)
  replace HC := Lib.hid (HC.out.trans hc11)
  replace HR := Lib.hid hr11
  replace HZ0 := Lib.hid (Nat.lt_of_lt_of_le HZ0.out hc11.size)
  replace HZ1 := Lib.hid (Nat.lt_of_lt_of_le HZ1.out hc11.size)
  clear hr11 hc11
  by_cases hq : q = 0
  · subst hq
    go_wp2_with fail
    with_reducible refine (pick_any _ _ HR.out (by omega)).mono ?_
    rintro e w12 ⟨⟨z12, rfl, -⟩, hr12, hc12⟩
    have h0 := (hc12.block _ HZ0.out (by simpa using hn0)).trans HB0.out
    have h1 := (hc12.block _ HZ1.out (by simpa using hn1)).trans HB1.out
    have c7 := cellH h1 7
    have f7 := frozen_of_heap h1 7
    simp at c7
    replace HB0 := Lib.hid ((Below.heap_setCell w12 ⟨w7.heap.size, 7, none⟩ (.int .i64 z12) _ hn01).trans h0)
    have hp1 := put1h (i := 7) h1 (.int .i64 z12)
    simp only [List.setIfInBounds_toArray, List.set_cons_succ, List.set_cons_zero] at hp1
    replace HB1 := Lib.hid hp1
    replace HC := Lib.hid ((HC.out.trans hc12).setCell (p := ⟨w7.heap.size, 7, none⟩) (.inr hw1) (.int .i64 z12))
    replace HR := Lib.hid (hr12.setCell (p := ⟨w7.heap.size, 7, none⟩) hB1 hn1 (.int .i64 z12))
    replace HZ0 := Lib.hid (show w.heap.size < (w12.setCell ⟨w7.heap.size, 7, none⟩ (.int .i64 z12)).heap.size from by simpa [World.setCell] using Nat.lt_of_lt_of_le HZ0.out hc12.size)
    replace HZ1 := Lib.hid (show w7.heap.size < (w12.setCell ⟨w7.heap.size, 7, none⟩ (.int .i64 z12)).heap.size from by simpa [World.setCell] using Nat.lt_of_lt_of_le HZ1.out hc12.size)
    clear h0 h1 hr12 hc12 hp1
    go_wp2_with fail
    with_reducible refine (pick_any _ _ HR.out (by omega)).mono ?_
    rintro e w13 ⟨⟨z13, rfl, -⟩, hr13, hc13⟩
    clear c7 f7
    have h0 := (hc13.block _ HZ0.out (by simpa using hn0)).trans HB0.out
    have h1 := (hc13.block _ HZ1.out (by simpa using hn1)).trans HB1.out
    have c8 := cellH h1 8
    have f8 := frozen_of_heap h1 8
    simp at c8
    replace HB0 := Lib.hid ((Below.heap_setCell w13 ⟨w7.heap.size, 8, none⟩ (.int .i64 z13) _ hn01).trans h0)
    have hp1 := put1h (i := 8) h1 (.int .i64 z13)
    simp only [List.setIfInBounds_toArray, List.set_cons_succ, List.set_cons_zero] at hp1
    replace HB1 := Lib.hid hp1
    replace HC := Lib.hid ((HC.out.trans hc13).setCell (p := ⟨w7.heap.size, 8, none⟩) (.inr hw1) (.int .i64 z13))
    replace HR := Lib.hid (hr13.setCell (p := ⟨w7.heap.size, 8, none⟩) hB1 hn1 (.int .i64 z13))
    replace HZ0 := Lib.hid (show w.heap.size < (w13.setCell ⟨w7.heap.size, 8, none⟩ (.int .i64 z13)).heap.size from by simpa [World.setCell] using Nat.lt_of_lt_of_le HZ0.out hc13.size)
    replace HZ1 := Lib.hid (show w7.heap.size < (w13.setCell ⟨w7.heap.size, 8, none⟩ (.int .i64 z13)).heap.size from by simpa [World.setCell] using Nat.lt_of_lt_of_le HZ1.out hc13.size)
    clear h0 h1 hr13 hc13 hp1
    have h0 := HB0.out
    have h1 := HB1.out
    obtain ⟨c0, c1, c2, c3, c4, c5, c6, c7, c8⟩ := b9c h1
    obtain ⟨d0, d1, d2, d3, d4, d5, d6, d7, d8⟩ := b9c h0
    obtain ⟨f0, f1, f2, f3, f4, f5, f6, f7, f8⟩ := b9f h0
    clear h0 h1
    go_wp2
    refine bp_gen (fun W => W.heap[w.heap.size]? = some (.cells #[.int .i64 z2, .int .i64 z4, .int .i64 z5, .bool (z8 == 0), .bool (z9 == 0), .bool (z10 == 0), .int .i64 z7, .int .i64 z12, .int .i64 z13] 23) ∧ Rd B rb A l c (m + 20) W ∧ Chg [rb] w W) ⟨put9h HB0.out (.int .i64 z2) (.int .i64 z4) (.int .i64 z5) (.bool (z8 == 0)) (.bool (z9 == 0)) (.bool (z10 == 0)) (.int .i64 z7) (.int .i64 z12) (.int .i64 z13), put9r (HR.out.mono (by omega)) hB0 hn0 (.int .i64 z2) (.int .i64 z4) (.int .i64 z5) (.bool (z8 == 0)) (.bool (z9 == 0)) (.bool (z10 == 0)) (.int .i64 z7) (.int .i64 z12) (.int .i64 z13), put9c HC.out (.inr (Nat.le_refl _)) (.int .i64 z2) (.int .i64 z4) (.int .i64 z5) (.bool (z8 == 0)) (.bool (z9 == 0)) (.bool (z10 == 0)) (.int .i64 z7) (.int .i64 z12) (.int .i64 z13)⟩ ?_
    clear HB0 HB1 HC HR c0 c1 c2 c3 c4 c5 c6 c7 c8 d0 d1 d2 d3 d4 d5 d6 d7 d8 f0 f1 f2 f3 f4 f5 f6 f7 f8
    rintro W ⟨h0, hR, hC⟩
    obtain ⟨d0, d1, d2, d3, d4, d5, d6, d7, d8⟩ := b9c h0
    exact bodyPost_ret (v := .agg #[.int .i64 z2, .int .i64 z4, .int .i64 z5, .bool (z8 == 0), .bool (z9 == 0), .bool (z10 == 0), .int .i64 z7, .int .i64 z12, .int .i64 z13]) (by simp only [results, Tryd.results35]; go_simp) rfl ⟨⟨_, _, _, _, _, _, _, _, _, rfl⟩, hR, hC⟩
  · have hq1 : (q == 0) = false := by simpa using hq
    have h0 := HB0.out
    have h1 := HB1.out
    obtain ⟨c0, c1, c2, c3, c4, c5, c6, c7, c8⟩ := b9c h1
    obtain ⟨d0, d1, d2, d3, d4, d5, d6, d7, d8⟩ := b9c h0
    obtain ⟨f0, f1, f2, f3, f4, f5, f6, f7, f8⟩ := b9f h0
    clear h0 h1
    go_wp2
    refine bp_gen (fun W => W.heap[w.heap.size]? = some (.cells #[.int .i64 z2, .int .i64 z4, .int .i64 z5, .bool (z8 == 0), .bool (z9 == 0), .bool (z10 == 0), .int .i64 z7, .int .i64 0, .int .i64 0] 23) ∧ Rd B rb A l c (m + 20) W ∧ Chg [rb] w W) ⟨put9h HB0.out (.int .i64 z2) (.int .i64 z4) (.int .i64 z5) (.bool (z8 == 0)) (.bool (z9 == 0)) (.bool (z10 == 0)) (.int .i64 z7) (.int .i64 0) (.int .i64 0), put9r (HR.out.mono (by omega)) hB0 hn0 (.int .i64 z2) (.int .i64 z4) (.int .i64 z5) (.bool (z8 == 0)) (.bool (z9 == 0)) (.bool (z10 == 0)) (.int .i64 z7) (.int .i64 0) (.int .i64 0), put9c HC.out (.inr (Nat.le_refl _)) (.int .i64 z2) (.int .i64 z4) (.int .i64 z5) (.bool (z8 == 0)) (.bool (z9 == 0)) (.bool (z10 == 0)) (.int .i64 z7) (.int .i64 0) (.int .i64 0)⟩ ?_
    clear HB0 HB1 HC HR c0 c1 c2 c3 c4 c5 c6 c7 c8 d0 d1 d2 d3 d4 d5 d6 d7 d8 f0 f1 f2 f3 f4 f5 f6 f7 f8
    rintro W ⟨h0, hR, hC⟩
    obtain ⟨d0, d1, d2, d3, d4, d5, d6, d7, d8⟩ := b9c h0
    exact bodyPost_ret (v := .agg #[.int .i64 z2, .int .i64 z4, .int .i64 z5, .bool (z8 == 0), .bool (z9 == 0), .bool (z10 == 0), .int .i64 z7, .int .i64 0, .int .i64 0]) (by simp only [results, Tryd.results35]; go_simp) rfl ⟨⟨_, _, _, _, _, _, _, _, _, rfl⟩, hR, hC⟩
set_option maxRecDepth 100000 in
theorem somePack_any {B rb : Nat} {A : Option Addr} {l c m : Nat} (w : World) (h : Rd B rb A l c m w) (hm : m ≤ 800000) :
    Calls Tryd.prog 29 #[.pointer (some ⟨rb, 0, none⟩)] w fun e w' => (∃ (w0 h0 s : Int) (fx fy ex : Bool) (an px py : Int), e = .returned (.agg #[.int .i64 w0, .int .i64 h0, .int .i64 s, .bool fx, .bool fy, .bool ex, .int .i64 an, .int .i64 px, .int .i64 py])) ∧ Rd B rb A l c (m + 22) w' ∧ Chg [rb] w w' := by
  have hlt := h.lt
  have hbase := h.base
  go_enter Tryd.func29, Tryd.ntmps29
  go_wp2_with fail
  with_reducible refine (goodPack_any _ (h.alloc _) (by omega)).mono ?_
  rintro e w1 ⟨⟨v0, v1, v2, v3, v4, v5, v6, v7, v8, rfl⟩, hr1, hc⟩
  have hb0 := (hc.block w.heap.size (by simp) (by simp; omega)).trans (heap_alloc_new w _)
  have hs := hc.size
  simp only [World.size_alloc] at hs
  have HC := Lib.hid (((Chg.refl [rb] w).alloc _).trans hc)
  have hl7 := hr1.lt
  have hx0 := Nat.lt_of_succ_le hs
  have hn0 : w.heap.size ≠ rb := by omega
  have hB0 : B ≤ w.heap.size := by omega
  have hn1 : w1.heap.size ≠ rb := by omega
  have hB1 : B ≤ w1.heap.size := by omega
  have hn01 : w.heap.size ≠ w1.heap.size := by omega
  have hn10 : ¬ w1.heap.size = w.heap.size := by omega
  have hw1 : w.heap.size ≤ w1.heap.size := by omega
  clear hc hlt hbase hs hl7
  have hb1 := heap_alloc_new w1 (.cells #[.int .i64 v0, .int .i64 v1, .int .i64 v2, .bool v3, .bool v4, .bool v5, .int .i64 v6, .int .i64 v7, .int .i64 v8] 23)
  replace hb0 := (Below.heap_alloc w1 (.cells #[.int .i64 v0, .int .i64 v1, .int .i64 v2, .bool v3, .bool v4, .bool v5, .int .i64 v6, .int .i64 v7, .int .i64 v8] 23) w.heap.size hx0).trans hb0
  replace HC := Lib.hid (HC.out.alloc (.cells #[.int .i64 v0, .int .i64 v1, .int .i64 v2, .bool v3, .bool v4, .bool v5, .int .i64 v6, .int .i64 v7, .int .i64 v8] 23))
  have HR := Lib.hid (hr1.alloc (.cells #[.int .i64 v0, .int .i64 v1, .int .i64 v2, .bool v3, .bool v4, .bool v5, .int .i64 v6, .int .i64 v7, .int .i64 v8] 23))
  clear hr1
  have HB0 := Lib.hid hb0
  have HB1 := Lib.hid hb1
  clear hb0 hb1
  have hz0 : w.heap.size < (w1.alloc (.cells #[.int .i64 v0, .int .i64 v1, .int .i64 v2, .bool v3, .bool v4, .bool v5, .int .i64 v6, .int .i64 v7, .int .i64 v8] 23)).heap.size := by simp; omega
  have hz1 : w1.heap.size < (w1.alloc (.cells #[.int .i64 v0, .int .i64 v1, .int .i64 v2, .bool v3, .bool v4, .bool v5, .int .i64 v6, .int .i64 v7, .int .i64 v8] 23)).heap.size := by simp
  have HZ0 := Lib.hid hz0
  have HZ1 := Lib.hid hz1
  clear hz0 hz1
  go_wp2_with fail
  with_reducible refine (pick_any _ _ HR.out (by omega)).mono ?_
  rintro e w2 ⟨⟨q, rfl, -⟩, hr2, hc2⟩
  replace HB0 := Lib.hid ((hc2.block _ HZ0.out (by simpa using hn0)).trans HB0.out)
  replace HB1 := Lib.hid ((hc2.block _ HZ1.out (by simpa using hn1)).trans HB1.out)
  replace HC := Lib.hid (HC.out.trans hc2)
  replace HR := Lib.hid hr2
  replace HZ0 := Lib.hid (Nat.lt_of_lt_of_le HZ0.out hc2.size)
  replace HZ1 := Lib.hid (Nat.lt_of_lt_of_le HZ1.out hc2.size)
  clear hr2 hc2
  by_cases q0 : q = 0
  · subst q0
    go_wp2_with fail
    with_reducible refine (one_lit _ HR.out (by omega) (by simp) (by omega) (by omega) (by simp [isI])).mono ?_
    rintro e w3 ⟨⟨z, rfl⟩, hr3, hc3⟩
    replace HB0 := Lib.hid ((hc3.block _ HZ0.out (by simpa using hn0)).trans HB0.out)
    replace HB1 := Lib.hid ((hc3.block _ HZ1.out (by simpa using hn1)).trans HB1.out)
    replace HC := Lib.hid (HC.out.trans hc3)
    replace HR := Lib.hid hr3
    replace HZ0 := Lib.hid (Nat.lt_of_lt_of_le HZ0.out hc3.size)
    replace HZ1 := Lib.hid (Nat.lt_of_lt_of_le HZ1.out hc3.size)
    clear hr3 hc3
    have h0 := HB0.out
    have h1 := HB1.out
    obtain ⟨c0, c1, c2, c3, c4, c5, c6, c7, c8⟩ := b9c h1
    obtain ⟨d0, d1, d2, d3, d4, d5, d6, d7, d8⟩ := b9c h0
    obtain ⟨f0, f1, f2, f3, f4, f5, f6, f7, f8⟩ := b9f h0
    have g0 := frozen_of_heap h1 0
    clear h0 h1
    go_wp2
    refine bp_gen (fun W => W.heap[w.heap.size]? = some (.cells #[.int .i64 z, .int .i64 v1, .int .i64 v2, .bool v3, .bool v4, .bool v5, .int .i64 v6, .int .i64 v7, .int .i64 v8] 23) ∧ Rd B rb A l c (m + 22) W ∧ Chg [rb] w W) ⟨put9h ((Below.heap_setCell w3 ⟨w1.heap.size, 0, none⟩ (.int .i64 z) _ hn01).trans HB0.out) (.int .i64 z) (.int .i64 v1) (.int .i64 v2) (.bool v3) (.bool v4) (.bool v5) (.int .i64 v6) (.int .i64 v7) (.int .i64 v8), put9r ((HR.out.setCell (p := ⟨w1.heap.size, 0, none⟩) hB1 hn1 (.int .i64 z)).mono (by omega)) hB0 hn0 (.int .i64 z) (.int .i64 v1) (.int .i64 v2) (.bool v3) (.bool v4) (.bool v5) (.int .i64 v6) (.int .i64 v7) (.int .i64 v8), put9c (HC.out.setCell (p := ⟨w1.heap.size, 0, none⟩) (.inr hw1) (.int .i64 z)) (.inr (Nat.le_refl _)) (.int .i64 z) (.int .i64 v1) (.int .i64 v2) (.bool v3) (.bool v4) (.bool v5) (.int .i64 v6) (.int .i64 v7) (.int .i64 v8)⟩ ?_
    clear HB0 HB1 HC HR c0 c1 c2 c3 c4 c5 c6 c7 c8 d0 d1 d2 d3 d4 d5 d6 d7 d8 f0 f1 f2 f3 f4 f5 f6 f7 f8
    rintro W ⟨h0, hR, hC⟩
    obtain ⟨d0, d1, d2, d3, d4, d5, d6, d7, d8⟩ := b9c h0
    exact bodyPost_ret (v := .agg #[.int .i64 z, .int .i64 v1, .int .i64 v2, .bool v3, .bool v4, .bool v5, .int .i64 v6, .int .i64 v7, .int .i64 v8]) (by simp only [results, Tryd.results29]; go_simp) rfl ⟨⟨_, _, _, _, _, _, _, _, _, rfl⟩, hR, hC⟩
  by_cases q1 : q = 1
  · subst q1
    go_wp2_with fail
    with_reducible refine (one_lit _ HR.out (by omega) (by simp) (by omega) (by omega) (by simp [isI])).mono ?_
    rintro e w3 ⟨⟨z, rfl⟩, hr3, hc3⟩
    replace HB0 := Lib.hid ((hc3.block _ HZ0.out (by simpa using hn0)).trans HB0.out)
    replace HB1 := Lib.hid ((hc3.block _ HZ1.out (by simpa using hn1)).trans HB1.out)
    replace HC := Lib.hid (HC.out.trans hc3)
    replace HR := Lib.hid hr3
    replace HZ0 := Lib.hid (Nat.lt_of_lt_of_le HZ0.out hc3.size)
    replace HZ1 := Lib.hid (Nat.lt_of_lt_of_le HZ1.out hc3.size)
    clear hr3 hc3
    have h0 := HB0.out
    have h1 := HB1.out
    obtain ⟨c0, c1, c2, c3, c4, c5, c6, c7, c8⟩ := b9c h1
    obtain ⟨d0, d1, d2, d3, d4, d5, d6, d7, d8⟩ := b9c h0
    obtain ⟨f0, f1, f2, f3, f4, f5, f6, f7, f8⟩ := b9f h0
    have g0 := frozen_of_heap h1 2
    clear h0 h1
    go_wp2
    refine bp_gen (fun W => W.heap[w.heap.size]? = some (.cells #[.int .i64 v0, .int .i64 v1, .int .i64 z, .bool v3, .bool v4, .bool v5, .int .i64 v6, .int .i64 v7, .int .i64 v8] 23) ∧ Rd B rb A l c (m + 22) W ∧ Chg [rb] w W) ⟨put9h ((Below.heap_setCell w3 ⟨w1.heap.size, 2, none⟩ (.int .i64 z) _ hn01).trans HB0.out) (.int .i64 v0) (.int .i64 v1) (.int .i64 z) (.bool v3) (.bool v4) (.bool v5) (.int .i64 v6) (.int .i64 v7) (.int .i64 v8), put9r ((HR.out.setCell (p := ⟨w1.heap.size, 2, none⟩) hB1 hn1 (.int .i64 z)).mono (by omega)) hB0 hn0 (.int .i64 v0) (.int .i64 v1) (.int .i64 z) (.bool v3) (.bool v4) (.bool v5) (.int .i64 v6) (.int .i64 v7) (.int .i64 v8), put9c (HC.out.setCell (p := ⟨w1.heap.size, 2, none⟩) (.inr hw1) (.int .i64 z)) (.inr (Nat.le_refl _)) (.int .i64 v0) (.int .i64 v1) (.int .i64 z) (.bool v3) (.bool v4) (.bool v5) (.int .i64 v6) (.int .i64 v7) (.int .i64 v8)⟩ ?_
    clear HB0 HB1 HC HR c0 c1 c2 c3 c4 c5 c6 c7 c8 d0 d1 d2 d3 d4 d5 d6 d7 d8 f0 f1 f2 f3 f4 f5 f6 f7 f8
    rintro W ⟨h0, hR, hC⟩
    obtain ⟨d0, d1, d2, d3, d4, d5, d6, d7, d8⟩ := b9c h0
    exact bodyPost_ret (v := .agg #[.int .i64 v0, .int .i64 v1, .int .i64 z, .bool v3, .bool v4, .bool v5, .int .i64 v6, .int .i64 v7, .int .i64 v8]) (by simp only [results, Tryd.results29]; go_simp) rfl ⟨⟨_, _, _, _, _, _, _, _, _, rfl⟩, hR, hC⟩
  by_cases q2 : q = 2
  · subst q2
    go_wp2_with fail
    with_reducible refine (one_lit _ HR.out (by omega) (by simp) (by omega) (by omega) (by simp [isI])).mono ?_
    rintro e w3 ⟨⟨z, rfl⟩, hr3, hc3⟩
    replace HB0 := Lib.hid ((hc3.block _ HZ0.out (by simpa using hn0)).trans HB0.out)
    replace HB1 := Lib.hid ((hc3.block _ HZ1.out (by simpa using hn1)).trans HB1.out)
    replace HC := Lib.hid (HC.out.trans hc3)
    replace HR := Lib.hid hr3
    replace HZ0 := Lib.hid (Nat.lt_of_lt_of_le HZ0.out hc3.size)
    replace HZ1 := Lib.hid (Nat.lt_of_lt_of_le HZ1.out hc3.size)
    clear hr3 hc3
    have h0 := HB0.out
    have h1 := HB1.out
    obtain ⟨c0, c1, c2, c3, c4, c5, c6, c7, c8⟩ := b9c h1
    obtain ⟨d0, d1, d2, d3, d4, d5, d6, d7, d8⟩ := b9c h0
    obtain ⟨f0, f1, f2, f3, f4, f5, f6, f7, f8⟩ := b9f h0
    have g0 := frozen_of_heap h1 7
    clear h0 h1
    go_wp2
    refine bp_gen (fun W => W.heap[w.heap.size]? = some (.cells #[.int .i64 v0, .int .i64 v1, .int .i64 v2, .bool v3, .bool v4, .bool v5, .int .i64 v6, .int .i64 z, .int .i64 v8] 23) ∧ Rd B rb A l c (m + 22) W ∧ Chg [rb] w W) ⟨put9h ((Below.heap_setCell w3 ⟨w1.heap.size, 7, none⟩ (.int .i64 z) _ hn01).trans HB0.out) (.int .i64 v0) (.int .i64 v1) (.int .i64 v2) (.bool v3) (.bool v4) (.bool v5) (.int .i64 v6) (.int .i64 z) (.int .i64 v8), put9r ((HR.out.setCell (p := ⟨w1.heap.size, 7, none⟩) hB1 hn1 (.int .i64 z)).mono (by omega)) hB0 hn0 (.int .i64 v0) (.int .i64 v1) (.int .i64 v2) (.bool v3) (.bool v4) (.bool v5) (.int .i64 v6) (.int .i64 z) (.int .i64 v8), put9c (HC.out.setCell (p := ⟨w1.heap.size, 7, none⟩) (.inr hw1) (.int .i64 z)) (.inr (Nat.le_refl _)) (.int .i64 v0) (.int .i64 v1) (.int .i64 v2) (.bool v3) (.bool v4) (.bool v5) (.int .i64 v6) (.int .i64 z) (.int .i64 v8)⟩ ?_
    clear HB0 HB1 HC HR c0 c1 c2 c3 c4 c5 c6 c7 c8 d0 d1 d2 d3 d4 d5 d6 d7 d8 f0 f1 f2 f3 f4 f5 f6 f7 f8
    rintro W ⟨h0, hR, hC⟩
    obtain ⟨d0, d1, d2, d3, d4, d5, d6, d7, d8⟩ := b9c h0
    exact bodyPost_ret (v := .agg #[.int .i64 v0, .int .i64 v1, .int .i64 v2, .bool v3, .bool v4, .bool v5, .int .i64 v6, .int .i64 z, .int .i64 v8]) (by simp only [results, Tryd.results29]; go_simp) rfl ⟨⟨_, _, _, _, _, _, _, _, _, rfl⟩, hR, hC⟩
  by_cases q3 : q = 3
  · subst q3
    go_wp2_with fail
    with_reducible refine (one_lit _ HR.out (by omega) (by simp) (by omega) (by omega) (by simp [isI])).mono ?_
    rintro e w3 ⟨⟨z, rfl⟩, hr3, hc3⟩
    replace HB0 := Lib.hid ((hc3.block _ HZ0.out (by simpa using hn0)).trans HB0.out)
    replace HB1 := Lib.hid ((hc3.block _ HZ1.out (by simpa using hn1)).trans HB1.out)
    replace HC := Lib.hid (HC.out.trans hc3)
    replace HR := Lib.hid hr3
    replace HZ0 := Lib.hid (Nat.lt_of_lt_of_le HZ0.out hc3.size)
    replace HZ1 := Lib.hid (Nat.lt_of_lt_of_le HZ1.out hc3.size)
    clear hr3 hc3
    have h0 := HB0.out
    have h1 := HB1.out
    obtain ⟨c0, c1, c2, c3, c4, c5, c6, c7, c8⟩ := b9c h1
    obtain ⟨d0, d1, d2, d3, d4, d5, d6, d7, d8⟩ := b9c h0
    obtain ⟨f0, f1, f2, f3, f4, f5, f6, f7, f8⟩ := b9f h0
    have g0 := frozen_of_heap h1 6
    clear h0 h1
    go_wp2
    refine bp_gen (fun W => W.heap[w.heap.size]? = some (.cells #[.int .i64 v0, .int .i64 v1, .int .i64 v2, .bool v3, .bool v4, .bool v5, .int .i64 z, .int .i64 v7, .int .i64 v8] 23) ∧ Rd B rb A l c (m + 22) W ∧ Chg [rb] w W) ⟨put9h ((Below.heap_setCell w3 ⟨w1.heap.size, 6, none⟩ (.int .i64 z) _ hn01).trans HB0.out) (.int .i64 v0) (.int .i64 v1) (.int .i64 v2) (.bool v3) (.bool v4) (.bool v5) (.int .i64 z) (.int .i64 v7) (.int .i64 v8), put9r ((HR.out.setCell (p := ⟨w1.heap.size, 6, none⟩) hB1 hn1 (.int .i64 z)).mono (by omega)) hB0 hn0 (.int .i64 v0) (.int .i64 v1) (.int .i64 v2) (.bool v3) (.bool v4) (.bool v5) (.int .i64 z) (.int .i64 v7) (.int .i64 v8), put9c (HC.out.setCell (p := ⟨w1.heap.size, 6, none⟩) (.inr hw1) (.int .i64 z)) (.inr (Nat.le_refl _)) (.int .i64 v0) (.int .i64 v1) (.int .i64 v2) (.bool v3) (.bool v4) (.bool v5) (.int .i64 z) (.int .i64 v7) (.int .i64 v8)⟩ ?_
    clear HB0 HB1 HC HR c0 c1 c2 c3 c4 c5 c6 c7 c8 d0 d1 d2 d3 d4 d5 d6 d7 d8 f0 f1 f2 f3 f4 f5 f6 f7 f8
    rintro W ⟨h0, hR, hC⟩
    obtain ⟨d0, d1, d2, d3, d4, d5, d6, d7, d8⟩ := b9c h0
    exact bodyPost_ret (v := .agg #[.int .i64 v0, .int .i64 v1, .int .i64 v2, .bool v3, .bool v4, .bool v5, .int .i64 z, .int .i64 v7, .int .i64 v8]) (by simp only [results, Tryd.results29]; go_simp) rfl ⟨⟨_, _, _, _, _, _, _, _, _, rfl⟩, hR, hC⟩
  have e0 : (q == 0) = false := by simpa using q0
  have e1 : (q == 1) = false := by simpa using q1
  have e2 : (q == 2) = false := by simpa using q2
  have e3 : (q == 3) = false := by simpa using q3
  clear q0 q1 q2 q3
  have h0 := HB0.out
  have h1 := HB1.out
  obtain ⟨c0, c1, c2, c3, c4, c5, c6, c7, c8⟩ := b9c h1
  obtain ⟨d0, d1, d2, d3, d4, d5, d6, d7, d8⟩ := b9c h0
  obtain ⟨f0, f1, f2, f3, f4, f5, f6, f7, f8⟩ := b9f h0
  clear h0 h1
  go_wp2
  refine bp_gen (fun W => W.heap[w.heap.size]? = some (.cells #[.int .i64 v0, .int .i64 v1, .int .i64 v2, .bool v3, .bool v4, .bool v5, .int .i64 v6, .int .i64 v7, .int .i64 v8] 23) ∧ Rd B rb A l c (m + 22) W ∧ Chg [rb] w W) ⟨put9h HB0.out (.int .i64 v0) (.int .i64 v1) (.int .i64 v2) (.bool v3) (.bool v4) (.bool v5) (.int .i64 v6) (.int .i64 v7) (.int .i64 v8), put9r (HR.out.mono (by omega)) hB0 hn0 (.int .i64 v0) (.int .i64 v1) (.int .i64 v2) (.bool v3) (.bool v4) (.bool v5) (.int .i64 v6) (.int .i64 v7) (.int .i64 v8), put9c HC.out (.inr (Nat.le_refl _)) (.int .i64 v0) (.int .i64 v1) (.int .i64 v2) (.bool v3) (.bool v4) (.bool v5) (.int .i64 v6) (.int .i64 v7) (.int .i64 v8)⟩ ?_
  clear HB0 HB1 HC HR c0 c1 c2 c3 c4 c5 c6 c7 c8 d0 d1 d2 d3 d4 d5 d6 d7 d8 f0 f1 f2 f3 f4 f5 f6 f7 f8
  rintro W ⟨h0, hR, hC⟩
  obtain ⟨d0, d1, d2, d3, d4, d5, d6, d7, d8⟩ := b9c h0
  exact bodyPost_ret (v := .agg #[.int .i64 v0, .int .i64 v1, .int .i64 v2, .bool v3, .bool v4, .bool v5, .int .i64 v6, .int .i64 v7, .int .i64 v8]) (by simp only [results, Tryd.results29]; go_simp) rfl ⟨⟨_, _, _, _, _, _, _, _, _, rfl⟩, hR, hC⟩
end Go.Proofs.YtjfdmdmlgdgchaaDoor
end
section
namespace Go.Proofs.YtjfdmdmlgdgchaaDoor
open Go.RowKit
set_option linter.unusedVariables false
set_option maxHeartbeats 2000000
set_option maxRecDepth 100000 in
theorem DrawPackText_any (A : Option Addr) (n c : Nat) (w : World) (h : Bts w A n) (hn : n ≤ c) (hc : c ≤ maxLen) :
    Calls Tryd.prog 16 #[.slice A n c] w fun e w' => (∃ (w0 h0 s : Int) (fx fy ex : Bool) (an px py : Int), e = .returned (.agg #[.int .i64 w0, .int .i64 h0, .int .i64 s, .bool fx, .bool fy, .bool ex, .int .i64 an, .int .i64 px, .int .i64 py])) ∧ Below w.heap.size w w' := by
  go_enter Tryd.func16, Tryd.ntmps16
  go_wp2_with fail
  with_reducible refine (newReader_any A n c _ (Bts.alloc' h _) hn hc).mono ?_
  rintro e w1 ⟨n', rfl, hr1, hc1⟩
  simp only [World.size_alloc] at hr1
  go_wp2_with fail
  with_reducible refine (somePack_any _ hr1 (by omega)).mono ?_
  rintro e w2 ⟨⟨v0, v1, v2, v3, v4, v5, v6, v7, v8, rfl⟩, hr2, hc2⟩
  have hb := (hc1.block w.heap.size (by simp) (by simp)).trans (heap_alloc_new w _)
  have hs := hc1.size
  simp only [World.size_alloc] at hs
  replace hb := (hc2.block w.heap.size (by omega) (by simp)).trans hb
  have hB := Lib.hid (((Chg.refl [w.heap.size + 1] w).alloc _).trans ((hc1.mono (by simp)).trans hc2))
  have HB0 := Lib.hid hb
  obtain ⟨d0, d1, d2, d3, d4, d5, d6, d7, d8⟩ := b9c hb
  obtain ⟨f0, f1, f2, f3, f4, f5, f6, f7, f8⟩ := b9f hb
  clear hb hc1 hc2 hr1 hr2 hs
  go_wp2
  refine bp_gen (fun W => W.heap[w.heap.size]? = some (.cells #[.int .i64 v0, .int .i64 v1, .int .i64 v2, .bool v3, .bool v4, .bool v5, .int .i64 v6, .int .i64 v7, .int .i64 v8] 23) ∧ Below w.heap.size w W) ⟨put9h HB0.out (.int .i64 v0) (.int .i64 v1) (.int .i64 v2) (.bool v3) (.bool v4) (.bool v5) (.int .i64 v6) (.int .i64 v7) (.int .i64 v8), Chg.below (put9c hB.out (.inr (Nat.le_refl _)) _ _ _ _ _ _ _ _ _) (Nat.le_refl _) (by simp)⟩ ?_
  clear HB0 hB d0 d1 d2 d3 d4 d5 d6 d7 d8 f0 f1 f2 f3 f4 f5 f6 f7 f8
  rintro W ⟨h0, hBB⟩
  obtain ⟨d0, d1, d2, d3, d4, d5, d6, d7, d8⟩ := b9c h0
  exact bodyPost_ret (v := .agg #[.int .i64 v0, .int .i64 v1, .int .i64 v2, .bool v3, .bool v4, .bool v5, .int .i64 v6, .int .i64 v7, .int .i64 v8]) (by simp only [results, Tryd.results16]; go_simp) rfl ⟨⟨_, _, _, _, _, _, _, _, _, rfl⟩, hBB⟩
end Go.Proofs.YtjfdmdmlgdgchaaDoor
end
section
namespace Go.Proofs.YtjfdmdmlgdgchaaDoor
open Go.RowKit
set_option linter.unusedVariables false
set_option maxHeartbeats 1000000
/-! Texts: a value that is a text; numbers in decimal (spec.number). -/
def tx (l : List UInt8) : Value := .string ⟨l.toArray⟩
theorem tx_of (c : Array UInt8) : Value.string ⟨c⟩ = tx c.toList := rfl
theorem run_cat (a b : List UInt8) (w : World) (h : a.length + b.length ≤ 9223372036854775807) : (binOp .add 9 (tx a) (tx b)).run Tryd.prog w = .ok (tx (a ++ b)) w := by
  unfold tx
  go_simp
  rw [if_neg (by omega)]
  congr 2
theorem cat_ex (a b : List UInt8) (h : a.length + b.length ≤ 9223372036854775807) : ∃ c, c = a ++ b ∧ ∀ w, (binOp .add 9 (tx a) (tx b)).run Tryd.prog w = .ok (tx c) w := ⟨_, rfl, fun w => run_cat a b w h⟩
theorem cat_exr (a : List UInt8) (b : Array UInt8) (h : a.length + b.size ≤ 9223372036854775807) : ∃ c, c = a ++ b.toList ∧ ∀ w, (binOp .add 9 (tx a) (.string ⟨b⟩)).run Tryd.prog w = .ok (tx c) w := ⟨_, rfl, fun w => run_cat a b.toList w (by simpa using h)⟩
theorem cat_exl (a : Array UInt8) (b : List UInt8) (h : a.size + b.length ≤ 9223372036854775807) : ∃ c, c = a.toList ++ b ∧ ∀ w, (binOp .add 9 (.string ⟨a⟩) (tx b)).run Tryd.prog w = .ok (tx c) w := ⟨_, rfl, fun w => run_cat a.toList b w (by simpa using h)⟩
theorem eqg_tx (o : BinOp) (s t : Operand) (a b : List UInt8) (w : World) : (eqGuard o 9 s t (tx a) (tx b)).run Tryd.prog w = .ok () w := by
  unfold tx
  cases o <;> go_simp
theorem ne_same (a : List UInt8) (w : World) : (binOp .neq 9 (tx a) (tx a)).run Tryd.prog w = .ok (.bool false) w := by
  unfold tx
  go_simp
theorem eq_same (a : List UInt8) (w : World) : (binOp .eql 9 (tx a) (tx a)).run Tryd.prog w = .ok (.bool true) w := by
  unfold tx
  go_simp
theorem dec_len (m : Nat) : (Lib.decDigits m).length ≤ m + 1 := by
  induction m using Nat.strongRecOn with
  | _ m ih =>
    rw [Lib.decDigits]
    split
    · simp
    · have := ih (m / 10) (by omega)
      simp
      omega
set_option maxRecDepth 100000 in
theorem numN (m : Nat) : m < 1000000000000000 → ∀ w, Calls Tryd.prog 64 #[.int .i64 m] w fun e w' => e = .returned (tx (Lib.decDigits m)) ∧ w = w' := by
  induction m using Nat.strongRecOn with
  | _ m ih =>
    intro hm w
    have hn : decide ((m : Int) < 0) = false := by simp
    by_cases h : m < 10
    · have hd : decide ((m : Int) < 10) = true := by simp; omega
      have h10 : m = 0 ∨ m = 1 ∨ m = 2 ∨ m = 3 ∨ m = 4 ∨ m = 5 ∨ m = 6 ∨ m = 7 ∨ m = 8 ∨ m = 9 := by omega
      rw [Lib.decDigits, dif_pos h]
      clear ih h hm
      rcases h10 with rfl | rfl | rfl | rfl | rfl | rfl | rfl | rfl | rfl | rfl
      all_goals
        go_enter Tryd.func64, Tryd.ntmps64
        go_wp2
        go_ret
        exact ⟨rfl, rfl⟩
    · have hd : decide ((m : Int) < 10) = false := by simp; omega
      have h1 := ih (m / 10) (by omega) (by omega)
      have h2 := ih (m % 10) (by omega) (by omega)
      have e1 : (m : Int).tdiv 10 = ((m / 10 : Nat) : Int) := by rw [Int.tdiv_eq_ediv_of_nonneg (by omega)]; omega
      have e2 : (m : Int).tmod 10 = ((m % 10 : Nat) : Int) := by rw [Int.tmod_eq_emod_of_nonneg (by omega)]; omega
      have w1 : IntKind.i64.wrap ((m / 10 : Nat) : Int) = ((m / 10 : Nat) : Int) := IntWalk.i64_in _ (by omega)
      have w2 : IntKind.i64.wrap ((m % 10 : Nat) : Int) = ((m % 10 : Nat) : Int) := IntWalk.i64_in _ (by omega)
      have l1 := dec_len (m / 10)
      have l2 := dec_len (m % 10)
      obtain ⟨c, hc, g⟩ := cat_ex (Lib.decDigits (m / 10)) (Lib.decDigits (m % 10)) (by omega)
      have hr : c = Lib.decDigits m := by rw [hc, Lib.decDigits.eq_def m, dif_neg h, Lib.decDigits.eq_def (m % 10), dif_pos (by omega)]
      rw [← hr]
      generalize m / 10 = q1 at *
      generalize m % 10 = q2 at *
      clear hr hc l1 l2 ih
      go_enter Tryd.func64, Tryd.ntmps64
      go_wp2_with (first | (go_at_call 64; with_reducible refine (h1 _).mono ?_; rintro e w' ⟨rfl, rfl⟩) | (go_at_call 64; with_reducible refine (h2 _).mono ?_; rintro e w' ⟨rfl, rfl⟩))
      go_ret
      exact ⟨rfl, rfl⟩
end Go.Proofs.YtjfdmdmlgdgchaaDoor
end
section
namespace Go.Proofs.YtjfdmdmlgdgchaaDoor
open Go.ChangeShapes Go.WideShapes Go.ChangeAt Go.RowKit
/-! What the listed tables give: the powers of ten; and a world that holds them. -/
namespace LT
theorem gP : Tryd.prog.globalNamed "internal/strconv.uint64pow10" = some 3 := by kernel_rfl
theorem gPType : (Tryd.prog.globals[3]?).map (·.type) = some 105 := by kernel_rfl
theorem cellsP : Tryd.prog.cellsOf 105 = 20 := by kernel_rfl
theorem cellsU : Tryd.prog.cellsOf 95 = 1 := by kernel_rfl
theorem tail {P : Program} {W : World} {n : String} {d : DataW Unit} {r : List (String × DataW Unit)} (h : laidMet P ((n, d) :: r) W) : laidMet P r W := by
  obtain ⟨ps, ⟨g0, t0, cs0, f0, p0, q0, hg0, ht0, hv0, hd0, hr, e0⟩, hn, hrows⟩ := h
  subst e0
  exact ⟨q0, hr, (List.nodup_append.1 hn).2.1, fun b off hb => hrows b off (List.mem_append_right _ hb)⟩
/-- the powers of ten are there -/
def TW (w : World) : Prop := Lib.TabIs Tryd.prog w "internal/strconv.uint64pow10" .u64 Lib.pow10Tab
theorem TW.keep {w w' : World} (h : TW w) (hb : Below w.heap.size w w') : TW w' := by
  unfold TW Lib.TabIs World.var? at h ⊢
  rw [gP] at h ⊢
  simp only [Option.bind_some] at h ⊢
  have hlt : 3 < w.heap.size := by
    rcases Nat.lt_or_ge 3 w.heap.size with h' | h'
    · exact h'
    · rw [Array.getElem?_eq_none h'] at h; cases h
  rw [hb.block _ hlt]
  exact h
theorem opens3 {r : List (String × DataW Unit)} {W : World} (h : laidMet Tryd.prog (("math/bits.deBruijn32tab", Rows.laid_math_bits_deBruijn32tab) :: ("math/bits.deBruijn64tab", Rows.laid_math_bits_deBruijn64tab) :: ("internal/strconv.uint64pow10", Rows.laid_internal_strconv_uint64pow10) :: r) W) : TW W := by
  have h2 := tail (tail h)
  rw [show (Rows.laid_internal_strconv_uint64pow10 : DataW Unit) = Lib.tabData .u64 Lib.pow10Tab from by kernel_rfl] at h2
  exact Lib.tabIs_of_head gP gPType Tryd.underlying105 Tryd.underlying95 cellsU cellsP h2
noncomputable def world (os : Os) : World := World.doorLaid Tryd.prog 34 os
end LT
end Go.Proofs.YtjfdmdmlgdgchaaDoor
end
section
namespace Go.Proofs.YtjfdmdmlgdgchaaDoor
open Go.RowKit
/-- behind a region that draws its order -/
theorem bdrewn {W w' : World} (h : Below W.drew.heap.size W.drew w') : Below W.heap.size W w' := (Below.refl _ _).drew.trans h
end Go.Proofs.YtjfdmdmlgdgchaaDoor
end
section
namespace Go.Proofs.YtjfdmdmlgdgchaaDoor
open Go.RowKit
set_option linter.unusedVariables false
set_option maxHeartbeats 1000000
/-- values written side by side -/
def wrAt (cs : Array Value) (o : Nat) : List Value → Array Value
  | [] => cs
  | v :: r => wrAt (cs.setIfInBounds o v) (o + 1) r
theorem wrAt_size : ∀ (vs : List Value) (cs : Array Value) (o : Nat), (wrAt cs o vs).size = cs.size
  | [], cs, o => rfl
  | v :: r, cs, o => by unfold wrAt; rw [wrAt_size r]; simp
theorem wrAt_lo : ∀ (vs : List Value) (cs : Array Value) (o i : Nat), i < o → (wrAt cs o vs)[i]? = cs[i]?
  | [], cs, o, i, _ => rfl
  | v :: r, cs, o, i, h => by unfold wrAt; rw [wrAt_lo r _ _ _ (by omega), Array.getElem?_setIfInBounds_ne (by omega)]
theorem wrAt_hi : ∀ (vs : List Value) (cs : Array Value) (o i : Nat), o + vs.length ≤ i → (wrAt cs o vs)[i]? = cs[i]?
  | [], cs, o, i, _ => rfl
  | v :: r, cs, o, i, h => by
    simp only [List.length_cons] at h
    unfold wrAt; rw [wrAt_hi r _ _ _ (by omega), Array.getElem?_setIfInBounds_ne (by omega)]
theorem wrAt_in : ∀ (vs : List Value) (cs : Array Value) (o j : Nat), o + vs.length ≤ cs.size → j < vs.length → (wrAt cs o vs)[o + j]? = vs[j]?
  | [], cs, o, j, _, h => by simp at h
  | v :: r, cs, o, 0, h, _ => by
    simp only [List.length_cons] at h
    unfold wrAt; rw [wrAt_lo r _ _ _ (by omega), Nat.add_zero, Array.getElem?_setIfInBounds_self_of_lt (by omega)]
    rfl
  | v :: r, cs, o, j + 1, h, hj => by
    simp only [List.length_cons] at h hj
    unfold wrAt
    rw [show o + (j + 1) = o + 1 + j from by omega, wrAt_in r _ _ _ (by simp; omega) (by omega)]
    simp
theorem putS {w : World} {b i : Nat} {cs : Array Value} {T : TypeId} {fz : Nat × Nat} (h : w.heap[b]? = some (.cells cs T fz)) (u : Value) : (w.setCell ⟨b, i, none⟩ u).heap[b]? = some (.cells (cs.setIfInBounds i u) T fz) := by
  simp [World.setCell, Array.getElem?_modify, h]
theorem cellS {w : World} {b : Nat} {cs : Array Value} {T : TypeId} {fz : Nat × Nat} (h : w.heap[b]? = some (.cells cs T fz)) (i : Nat) : w.cell? ⟨b, i, none⟩ = cs[i]? := by simp [World.cell?, h]
theorem frozenS {w : World} {b : Nat} {cs : Array Value} {T : TypeId} (h : w.heap[b]? = some (.cells cs T (0, 0))) (i : Nat) : w.frozen? ⟨b, i, none⟩ = false := by simp [World.frozen?, h]
theorem thereS {w : World} {b : Nat} {cs : Array Value} {T : TypeId} {fz : Nat × Nat} (h : w.heap[b]? = some (.cells cs T fz)) {i : Nat} (hi : i < cs.size) : ∃ v, w.cell? ⟨b, i, none⟩ = some v := ⟨cs[i], (cellS h i).trans (by simp [hi])⟩
theorem newS (w : World) (o : Obj) : (w.alloc o).heap[w.heap.size]? = some o := by
  show (w.heap.push _)[w.heap.size]? = _
  simp
theorem ltS {w : World} {g : Nat} {o : Obj} (h : w.heap[g]? = some o) : g < w.heap.size := (Array.getElem?_eq_some_iff.1 h).1
theorem gsetS {w w' : World} {g : Nat} (h : w.grownBy w' (some g)) (o : Nat) (v : Value) : w.grownBy (w'.setCell ⟨g, o, none⟩ v) (some g) :=
  ⟨h.os, h.tape, h.output, by simpa [World.setCell] using h.size, fun k hk hne => (Below.heap_setCell w' ⟨g, o, none⟩ v k (by rintro rfl; exact hne rfl)).trans (h.block k hk hne)⟩
theorem greflS (w : World) (g : Nat) : w.grownBy w (some g) := ⟨rfl, rfl, rfl, Nat.le_refl _, fun _ _ _ => rfl⟩
/-- the values lie in the cells from o on -/
def InS (cs : Array Value) (o : Nat) (l : List Value) : Prop := ∀ j u, l[j]? = some u → cs[o + j]? = some u
theorem InS.write {cs : Array Value} {o : Nat} {l : List Value} (h : o + l.length ≤ cs.size) : InS (wrAt cs o l) o l := fun j u hu => by
  have hj := (List.getElem?_eq_some_iff.1 hu).1
  rw [wrAt_in _ _ _ _ h hj, hu]
theorem InS.keepS {cs : Array Value} {o o' : Nat} {l m : List Value} (h : InS cs o' m) (hd : o' + m.length ≤ o ∨ o + l.length ≤ o') : InS (wrAt cs o l) o' m := fun j u hu => by
  have hj := (List.getElem?_eq_some_iff.1 hu).1
  rcases hd with hd | hd
  · rw [wrAt_lo _ _ _ _ (by omega)]; exact h j u hu
  · rw [wrAt_hi _ _ _ _ (by omega)]; exact h j u hu
end Go.Proofs.YtjfdmdmlgdgchaaDoor
end
section
namespace Go.Proofs.YtjfdmdmlgdgchaaDoor
open Go.RowKit
set_option linter.unusedVariables false
set_option maxHeartbeats 1000000
attribute [local go_sem] growUpon_value growUpon_skip growUpon_enter
/-! Rectangles as texts. -/
theorem itoa_len (n : Int) : (Lib.itoa n).length ≤ n.natAbs + 2 := by
  have h1 := dec_len n.natAbs
  have h2 := dec_len n.toNat
  unfold Lib.itoa
  split
  · simp only [List.length_cons]; omega
  · omega
theorem itoa_v (n : Int) (hn : -100000000000000 ≤ n ∧ n ≤ 100000000000000) (w : World) (h : LT.TW w) : Calls Tryd.prog 59 #[.int .i64 n] w fun e w' => e = .returned (tx (Lib.itoa n)) ∧ Below w.heap.size w w' := by
  refine (Tryd.strconv_Itoa n (by omega) (by omega) w h).mono ?_
  rintro e w' ⟨rfl, k, os, rfl⟩
  exact ⟨rfl, Lib.below_grow _ _ (Nat.le_refl _) _ _⟩
theorem number_v (n : Int) (hn : -100000000000000 ≤ n ∧ n ≤ 100000000000000) (w : World) : Calls Tryd.prog 64 #[.int .i64 n] w fun e w' => e = .returned (tx (Lib.itoa n)) ∧ Below w.heap.size w w' := by
  by_cases h : n < 0
  · obtain ⟨m, hm⟩ : ∃ m : Nat, n.natAbs = m := ⟨_, rfl⟩
    have e0 : (0 : Int) - n = (m : Int) := by omega
    have w1 : IntKind.i64.wrap (-n) = (m : Int) := (IntWalk.i64_in _ (by omega)).trans (by omega)
    have w3 : wrap64 (-n) = (m : Int) := (IntWalk.wrap64_in _ (by omega)).trans (by omega)
    have h1 := numN m (by omega)
    have hl := dec_len m
    obtain ⟨c, hc, g⟩ := cat_exl #[45] (Lib.decDigits m) (by simp; omega)
    have hd : decide (n < 0) = true := by simpa using h
    have hr : c = Lib.itoa n := by rw [hc, Lib.itoa, if_pos h, hm]; rfl
    rw [← hr]
    clear hr hc hl e0 hm
    go_enter Tryd.func64, Tryd.ntmps64
    go_wp2_with (go_at_call 64; with_reducible refine (h1 _).mono ?_; rintro e w' ⟨rfl, rfl⟩)
    go_ret
    exact ⟨rfl, Below.refl _ _⟩
  · obtain ⟨m, rfl⟩ := Int.eq_ofNat_of_zero_le (show 0 ≤ n by omega)
    refine (numN m (by omega) w).mono ?_
    rintro e w' ⟨rfl, rfl⟩
    refine ⟨?_, Below.refl _ _⟩
    rw [Lib.itoa, if_neg h]
    simp
theorem c4R {w : World} {b : Nat} {a0 a1 a2 a3 : Value} {T : TypeId} {fz : Nat × Nat} (h : w.heap[b]? = some (.cells #[a0, a1, a2, a3] T fz)) :
    w.cell? ⟨b, 0, none⟩ = some a0 ∧ w.cell? ⟨b, 1, none⟩ = some a1 ∧ w.cell? ⟨b, 2, none⟩ = some a2 ∧ w.cell? ⟨b, 3, none⟩ = some a3 := ⟨cellS h 0, cellS h 1, cellS h 2, cellS h 3⟩
/-- a rectangle's text -/
def rtL (x y u v : Int) : List UInt8 := Lib.itoa x ++ [44] ++ Lib.itoa y ++ [43] ++ (Lib.itoa u ++ [120] ++ Lib.itoa v)
def szL (u v : Int) : List UInt8 := Lib.itoa u ++ [120] ++ Lib.itoa v
end Go.Proofs.YtjfdmdmlgdgchaaDoor
end
section
namespace Go.Proofs.YtjfdmdmlgdgchaaDoor
open Go Go.RowKit
set_option linter.unusedVariables false
section
variable {P : Program}
def XV (u : Value) : Value → World → Prop := fun v _ => v = u
def XT : Value → World → Prop := fun _ _ => True
/-- what stays true when memory is made -/
def Stay (T : Value → World → Prop) : Prop := ∀ v a b, T v a → Gr a b → T v b
theorem stay_V (u : Value) : Stay (XV u) := fun _ _ _ h _ => h
theorem stay_T : Stay XT := fun _ _ _ _ _ => trivial
theorem stay_of {F : Value → World → Prop} (h : ∀ v a b, F v a → Below a.heap.size a b → F v b) : Stay F := fun v a b x g => h v a b x g.out
theorem stay_list {l : List (Value → World → Prop)} (h : ∀ T ∈ l, Stay T) : ∀ k v a b, (l.getD k XT) v a → Gr a b → (l.getD k XT) v b := by
  intro k v a b hv g
  rw [List.getD_eq_getElem?_getD] at *
  cases hk : l[k]? with
  | none => trivial
  | some T => rw [hk] at hv; exact h T (List.mem_of_getElem? hk) v a b hv g
def GIx (_ : Nat) (_ : World) : Prop := True
theorem gx_gen {K : Value → World → Prop} {r : Result Next} (h : ∀ K' : Value → World → Prop, (∀ v w', K v w' → K' v w') → givesUpon P K' r) : givesUpon P K r := h K fun _ _ h => h
theorem lookD_imp {T : Nat → Value → World → Prop} {a0 a : Act} {w : World} {G G' : Prop} (hG : G → G') : ∀ {ds : List (Tmp × Option Nat)}, lookD T a0 a w ds G → lookD T a0 a w ds G'
  | [], h => hG h
  | (t, some j) :: r, h => fun x => lookD_imp (ds := r) hG (h x)
  | (t, none) :: r, h => fun x => lookD_imp (ds := r) hG (h x)
theorem givesUpon_imp {K K' : Value → World → Prop} (hK : ∀ v w, K v w → K' v w) {r : Result Next} (h : givesUpon P K r) : givesUpon P K' r := by
  unfold givesUpon at *
  split at h
  · exact hK _ _ h
  · exact hK _ _ h
  · exact h.mono fun e w' ⟨v, e1, e2⟩ => ⟨v, e1, hK _ _ e2⟩
  · exact h.elim
theorem opOK_rx {ops : List Oper} {T : Nat → Value → World → Prop} {a0 : Act} {w0 : World} {k : Nat} {o : Oper} (ds : List (Tmp × Option Nat)) (hB : dsB ops o ds = true) (hg : o.guard = none)
    (h : ∀ (a : Act) (w : World), Gr w0 w → lookD T a0 a w ds (givesUpon P (fun v w' => T k v w' ∧ Gr w w') ((execOp a.eval o).run P w))) : opOK P ops T Gr GIx a0 w0 k o :=
  opOK_ds ds hB hg fun m a w _ hR _ => lookD_imp (fun x => givesUpon_imp (fun v w' ⟨h1, h2⟩ => ⟨h1, h2, trivial⟩) x) (h a w hR)
theorem wp_region_rx {id : Nat} {l : List Oper} {Q : Exit → Act → World → Prop} {a0 : Act} {w : World} (tl : List (Value → World → Prop))
    (hm : P.follows .mixedOrders = true) (hB : rgB l a0.tmps.size = true) (hTs : ∀ T ∈ tl, Stay T)
    (hops : opsOK P l (fun k => tl.getD k XT) Gr GIx a0 w.drew l 0) (hfin : ∀ w', Gr w.drew w' → finP (fun k => tl.getD k XT) w' (fun a' => Q .normal a' w') l 0 a0) : (Code.region id l.toArray true).wp P Q a0 w :=
  wp_region_rgl (fun k => tl.getD k XT) Gr GIx hm hB Gr.refl (fun _ _ _ h k => h.trans k) (stay_list hTs) trivial hops fun w' h _ => hfin w' h
end
end Go.Proofs.YtjfdmdmlgdgchaaDoor
end
