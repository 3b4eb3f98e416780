import Derived.Test.YtogpdpjheknkjacG
namespace Go.Proofs.Ytogpdpjheknkjac
open Go.RowKit
set_option linter.unusedVariables false
set_option maxHeartbeats 1000000
theorem one_any {B rb : Nat} {A : Option Addr} {l c m k : Nat} {v : Value} (w : World) (h : Rd B rb A l c m w) (hm : m ≤ 1000000) (hT : TL B [rb] k v w) (hk : 1 ≤ k) (hk2 : k ≤ 100) :
    Calls Try.prog 46 #[.pointer (some ⟨rb, 0, none⟩), v] w fun e w' => (∃ z, e = .returned (.int .i64 z)) ∧ Rd B rb A l c (m + 1) w' ∧ Chg [rb] w w' := by
  obtain ⟨g, rfl, hg1, hg2, hg3, hg4⟩ := hT
  go_enter Try.func46, Try.ntmps46
  go_wp2_with fail
  refine (pick_any _ _ h hm).mono ?_
  rintro e w1 ⟨⟨v, rfl, hv⟩, hr, hc⟩
  obtain ⟨v0, v1⟩ := hv (by omega)
  obtain ⟨j, rfl⟩ := Int.eq_ofNat_of_zero_le v0
  obtain ⟨z, hz⟩ := hg4 j (by omega)
  have hz' := (hc.cell (p := ⟨g, j, none⟩) hg3 hg2).trans hz
  have hjk : j < k := by omega
  have Hr := Lib.hid hr
  have Hc := Lib.hid hc
  clear hr hc hv hz hg4 h
  go_wp2
  go_ret
  exact ⟨⟨_, rfl⟩, Hr.out, Hc.out⟩
theorem one_lit {B rb : Nat} {A : Option Addr} {l c m k : Nat} {cs : Array Value} {T : TypeId} (w : World) (h : Rd B rb A l c m w) (hm : m ≤ 1000000) (hk : cs.size = k) (h1 : 1 ≤ k) (h2 : k ≤ 100) (ha : cs.toList.all isI = true) :
    Calls Try.prog 46 #[.pointer (some ⟨rb, 0, none⟩), .slice (some ⟨w.heap.size, 0, none⟩) k k] (w.alloc (.cells cs T)) fun e w' => (∃ z, e = .returned (.int .i64 z)) ∧ Rd B rb A l c (m + 1) w' ∧ Chg [rb] w w' :=
  (one_any _ (h.alloc _) hm (TL.lit (by have := h.lt; have := h.base; omega) (by have := h.lt; simpa using this) hk ha) h1 h2).mono fun e w' ⟨h1, h2, h3⟩ => ⟨h1, h2, ((Chg.refl _ _).alloc _).trans h3⟩
set_option maxRecDepth 100000 in
theorem goodRect_any {B rb : Nat} {A : Option Addr} {l c m : Nat} (w : World) (h : Rd B rb A l c m w) (hm : m ≤ 900000) :
    Calls Try.prog 73 #[.pointer (some ⟨rb, 0, none⟩)] w fun e w' => (∃ x y u v, e = .returned (.agg #[.int .i64 (x), .int .i64 (y), .int .i64 (u), .int .i64 (v)])) ∧ Rd B rb A l c (m + 8) w' ∧ Chg [rb] w w' := by
  go_enter Try.func73, Try.ntmps73
  go_wp2_with fail
  with_reducible refine (pick_any _ _ (h.alloc _) (by omega)).mono ?_
  rintro e w1 ⟨⟨v1, rfl, -⟩, hr1, hc1⟩
  go_wp2_with fail
  with_reducible refine (one_lit _ hr1 (by omega) (by simp) (by omega) (by omega) (by simp [isI])).mono ?_
  rintro e w2 ⟨⟨z2, rfl⟩, hr2, hc2⟩
  go_wp2_with fail
  with_reducible refine (pick_any _ _ hr2 (by omega)).mono ?_
  rintro e w3 ⟨⟨v3, rfl, -⟩, hr3, hc3⟩
  go_wp2_with fail
  with_reducible refine (one_lit _ hr3 (by omega) (by simp) (by omega) (by omega) (by simp [isI])).mono ?_
  rintro e w4 ⟨⟨z4, rfl⟩, hr4, hc4⟩
  go_wp2_with fail
  with_reducible refine (pick_any _ _ hr4 (by omega)).mono ?_
  rintro e w5 ⟨⟨v5, rfl, -⟩, hr5, hc5⟩
  go_wp2_with fail
  with_reducible refine (one_lit _ hr5 (by omega) (by simp) (by omega) (by omega) (by simp [isI])).mono ?_
  rintro e w6 ⟨⟨z6, rfl⟩, hr6, hc6⟩
  go_wp2_with fail
  with_reducible refine (pick_any _ _ hr6 (by omega)).mono ?_
  rintro e w7 ⟨⟨v7, rfl, -⟩, hr7, hc7⟩
  go_wp2_with fail
  with_reducible refine (one_lit _ hr7 (by omega) (by simp) (by omega) (by omega) (by simp [isI])).mono ?_
  rintro e w8 ⟨⟨z8, rfl⟩, hr8, hc8⟩
  have hc : Chg [rb] (w.alloc _) w8 := (((((((hc1).trans hc2).trans hc3).trans hc4).trans hc5).trans hc6).trans hc7).trans hc8
  clear hc1 hc2 hc3 hc4 hc5 hc6 hc7 hc8 hr1 hr2 hr3 hr4 hr5 hr6 hr7
  have hlt := h.lt
  have hbase := h.base
  have hb := (hc.block w.heap.size (by simp) (by simp; omega)).trans (heap_alloc_new w _)
  have Hc := Lib.hid (((Chg.refl [rb] w).alloc _).trans hc)
  have Hr := Lib.hid hr8
  have hb2 : B ≤ w.heap.size := by omega
  have hb3 : w.heap.size ≠ rb := by omega
  clear hc hr8 h hm hlt hbase
  generalize hbw : w.heap.size = b at *
  have Hbw := Lib.hid hbw
  clear hbw
  have c0 := cell_of_heap hb 0
  have c1 := cell_of_heap hb 1
  have c2 := cell_of_heap hb 2
  have c3 := cell_of_heap hb 3
  have f0 := frozen_of_heap hb 0
  have f1 := frozen_of_heap hb 1
  have f2 := frozen_of_heap hb 2
  have f3 := frozen_of_heap hb 3
  simp at c0 c1 c2 c3
  clear hb
  go_wp2
  have E := end4 Hr.out Hc.out hb2 hb3 (Nat.le_of_eq Hbw.out) (.int .i64 z2) (.int .i64 z4) (.int .i64 z6) (.int .i64 z8)
  exact bodyPost_ret (v := .agg #[.int .i64 (z2), .int .i64 (z4), .int .i64 (z6), .int .i64 (z8)]) (by simp only [results, Try.results73]; go_simp) rfl ⟨⟨_, _, _, _, rfl⟩, E⟩
set_option maxRecDepth 100000 in
theorem someRect_any {B rb : Nat} {A : Option Addr} {l c m : Nat} (w : World) (h : Rd B rb A l c m w) (hm : m ≤ 800000) :
    Calls Try.prog 51 #[.pointer (some ⟨rb, 0, none⟩)] w fun e w' => (∃ x y u v, e = .returned (.agg #[.int .i64 (x), .int .i64 (y), .int .i64 (u), .int .i64 (v)])) ∧ Rd B rb A l c (m + 10) w' ∧ Chg [rb] w w' := by
  have hlt := h.lt
  have hbase := h.base
  go_enter Try.func51, Try.ntmps51
  go_wp2_with fail
  with_reducible refine (goodRect_any _ (h.alloc _) (by omega)).mono ?_
  rintro e w1 ⟨⟨x, y, u, v, rfl⟩, hr1, hc1⟩
  have hb := (hc1.block w.heap.size (by simp) (by simp; omega)).trans (heap_alloc_new w _)
  have hs1 := hc1.size
  simp only [World.size_alloc] at hs1
  have hlt1 := Nat.lt_of_succ_le hs1
  have Hc1 := Lib.hid hc1
  clear hc1
  go_wp2_with fail
  have hb1 := heap_alloc_new w1 (.cells #[.int .i64 x, .int .i64 y, .int .i64 u, .int .i64 v] 37)
  have hb0 := (Below.heap_alloc w1 (.cells #[.int .i64 x, .int .i64 y, .int .i64 u, .int .i64 v] 37) w.heap.size hlt1).trans hb
  have Hc1' := Lib.hid (((Chg.refl [rb] w).alloc _).trans (Hc1.out.alloc (.cells #[.int .i64 x, .int .i64 y, .int .i64 u, .int .i64 v] 37)))
  clear Hc1 hb
  with_reducible refine (pick_any _ _ (hr1.alloc _) (by omega)).mono ?_
  rintro e w2 ⟨⟨q, rfl, -⟩, hr2, hc2⟩
  have hs2 := hc2.size
  simp only [World.size_alloc] at hs2
  replace hb1 := (hc2.block w1.heap.size (by simp) (by simp; omega)).trans hb1
  replace hb0 := (hc2.block w.heap.size (by simp; omega) (by simp; omega)).trans hb0
  have Hc := Lib.hid (Hc1'.out.trans hc2)
  have Hr := Lib.hid hr2
  clear Hc1' hc2 hr1 hr2 hs1
  have hB0 : B ≤ w.heap.size := by omega
  have hB1 : B ≤ w1.heap.size := by omega
  have hn0 : w.heap.size ≠ rb := by omega
  have hn1 : w1.heap.size ≠ rb := by omega
  have hn2 : ¬ w.heap.size = w1.heap.size := by omega
  have hn3 : ¬ w1.heap.size = w.heap.size := by omega
  have hz0 : w.heap.size < w2.heap.size := by omega
  have hz1 : w1.heap.size < w2.heap.size := by omega
  have hy0 : w.heap.size ≤ w.heap.size := Nat.le_refl _
  have hy1 : w.heap.size ≤ w1.heap.size := by omega
  clear hlt hlt1 hs2 hbase h
  have Hy := Lib.hid hy1
  clear hy0 hy1
  generalize hbw : w.heap.size = b at *
  generalize hbw1 : w1.heap.size = b' at *
  have Hbw := Lib.hid hbw
  clear hbw hbw1
  by_cases q0 : q = 0
  · subst q0
    go_wp2_with fail
    with_reducible refine (one_lit _ Hr.out (by omega) (by simp) (by omega) (by omega) (by simp [isI])).mono ?_
    rintro e w3 ⟨⟨z, rfl⟩, hr3, hc3⟩
    replace hb0 := (hc3.block _ hz0 (by simpa using hn0)).trans hb0
    replace hb1 := (hc3.block _ hz1 (by simpa using hn1)).trans hb1
    have E := end4 ((hr3.mono (m' := m + 10) (by omega)).setCell (p := ⟨b', 0, none⟩) hB1 hn1 (.int .i64 z)) ((Hc.out.trans hc3).setCell (p := ⟨b', 0, none⟩) (.inr (by rw [Hbw.out]; exact Hy.out)) (.int .i64 z)) hB0 hn0 (Nat.le_of_eq Hbw.out) (.int .i64 z) (.int .i64 y) (.int .i64 u) (.int .i64 v)
    have HE := Lib.hid E
    obtain ⟨c0, c1, c2, c3, f0, f1, f2, f3⟩ := b4 hb0
    obtain ⟨d0, d1, d2, d3, g0, g1, g2, g3⟩ := b4 hb1
    clear hb0 hb1 hr3 hc3 Hr Hc E
    go_wp2
    exact bodyPost_ret (v := .agg #[.int .i64 (z), .int .i64 (y), .int .i64 (u), .int .i64 (v)]) (by simp only [results, Try.results51]; go_simp) rfl ⟨⟨_, _, _, _, rfl⟩, HE.out⟩
  by_cases q1 : q = 1
  · subst q1
    go_wp2_with fail
    with_reducible refine (one_lit _ Hr.out (by omega) (by simp) (by omega) (by omega) (by simp [isI])).mono ?_
    rintro e w3 ⟨⟨z, rfl⟩, hr3, hc3⟩
    replace hb0 := (hc3.block _ hz0 (by simpa using hn0)).trans hb0
    replace hb1 := (hc3.block _ hz1 (by simpa using hn1)).trans hb1
    have E := end4 ((hr3.mono (m' := m + 10) (by omega)).setCell (p := ⟨b', 2, none⟩) hB1 hn1 (.int .i64 z)) ((Hc.out.trans hc3).setCell (p := ⟨b', 2, none⟩) (.inr (by rw [Hbw.out]; exact Hy.out)) (.int .i64 z)) hB0 hn0 (Nat.le_of_eq Hbw.out) (.int .i64 x) (.int .i64 y) (.int .i64 z) (.int .i64 v)
    have HE := Lib.hid E
    obtain ⟨c0, c1, c2, c3, f0, f1, f2, f3⟩ := b4 hb0
    obtain ⟨d0, d1, d2, d3, g0, g1, g2, g3⟩ := b4 hb1
    clear hb0 hb1 hr3 hc3 Hr Hc E
    go_wp2
    exact bodyPost_ret (v := .agg #[.int .i64 (x), .int .i64 (y), .int .i64 (z), .int .i64 (v)]) (by simp only [results, Try.results51]; go_simp) rfl ⟨⟨_, _, _, _, rfl⟩, HE.out⟩
  by_cases q2 : q = 2
  · subst q2
    go_wp2_with fail
    with_reducible refine (one_lit _ Hr.out (by omega) (by simp) (by omega) (by omega) (by simp [isI])).mono ?_
    rintro e w3 ⟨⟨z, rfl⟩, hr3, hc3⟩
    replace hb0 := (hc3.block _ hz0 (by simpa using hn0)).trans hb0
    replace hb1 := (hc3.block _ hz1 (by simpa using hn1)).trans hb1
    have E := end4 ((hr3.mono (m' := m + 10) (by omega)).setCell (p := ⟨b', 3, none⟩) hB1 hn1 (.int .i64 z)) ((Hc.out.trans hc3).setCell (p := ⟨b', 3, none⟩) (.inr (by rw [Hbw.out]; exact Hy.out)) (.int .i64 z)) hB0 hn0 (Nat.le_of_eq Hbw.out) (.int .i64 x) (.int .i64 y) (.int .i64 u) (.int .i64 z)
    have HE := Lib.hid E
    obtain ⟨c0, c1, c2, c3, f0, f1, f2, f3⟩ := b4 hb0
    obtain ⟨d0, d1, d2, d3, g0, g1, g2, g3⟩ := b4 hb1
    clear hb0 hb1 hr3 hc3 Hr Hc E
    go_wp2
    exact bodyPost_ret (v := .agg #[.int .i64 (x), .int .i64 (y), .int .i64 (u), .int .i64 (z)]) (by simp only [results, Try.results51]; go_simp) rfl ⟨⟨_, _, _, _, rfl⟩, HE.out⟩
  have e0 : (q == 0) = false := by simpa using q0
  have e1 : (q == 1) = false := by simpa using q1
  have e2 : (q == 2) = false := by simpa using q2
  obtain ⟨c0, c1, c2, c3, f0, f1, f2, f3⟩ := b4 hb0
  obtain ⟨d0, d1, d2, d3, g0, g1, g2, g3⟩ := b4 hb1
  clear hb0 hb1 q0 q1 q2
  go_wp2
  have E := end4 (Hr.out.mono (m' := m + 10) (by omega)) Hc.out hB0 hn0 (Nat.le_of_eq Hbw.out) (.int .i64 x) (.int .i64 y) (.int .i64 u) (.int .i64 v)
  exact bodyPost_ret (v := .agg #[.int .i64 (x), .int .i64 (y), .int .i64 (u), .int .i64 (v)]) (by simp only [results, Try.results51]; go_simp) rfl ⟨⟨_, _, _, _, rfl⟩, E⟩
end Go.Proofs.Ytogpdpjheknkjac
