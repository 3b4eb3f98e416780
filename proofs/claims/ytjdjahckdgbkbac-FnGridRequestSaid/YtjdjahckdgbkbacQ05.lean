import Derived.Test.YtjdjahckdgbkbacQ04
import Derived.Deep.Draws
section
namespace Go.Proofs.Ytjdjahckdgbkbac
open Go.RowKit
set_option linter.unusedVariables false
set_option maxHeartbeats 1000000
attribute [local go_sem] growUpon_value growUpon_skip growUpon_enter
theorem wp_genGC {P : Program} {c : Code} {Q : Exit → Act → World → Prop} {a : Act} {W : World} (F : World → Prop) (hF : F W) (h : ∀ W0, F W0 → c.wp P Q a W0) : c.wp P Q a W := h W hF
theorem bp_genGC {P : Program} {f : Func} {R : Ending → World → Prop} {e : Exit} {a : Act} {W : World} (F : World → Prop) (hF : F W) (h : ∀ W0, F W0 → bodyPost P f R e a W0) : bodyPost P f R e a W := h W hF
theorem put9gc {w : World} {b : Nat} {a0 a1 a2 a3 a4 a5 a6 a7 a8 : Value} {T : TypeId} {fz : Nat × Nat} (h : w.heap[b]? = some (.cells #[a0, a1, a2, a3, a4, a5, a6, a7, a8] T fz)) (x0 x1 x2 x3 x4 x5 x6 x7 x8 : Value) :
    (((((((((w.setCell ⟨b, 0, none⟩ x0).setCell ⟨b, 1, none⟩ x1).setCell ⟨b, 2, none⟩ x2).setCell ⟨b, 3, none⟩ x3).setCell ⟨b, 4, none⟩ x4).setCell ⟨b, 5, none⟩ x5).setCell ⟨b, 6, none⟩ x6).setCell ⟨b, 7, none⟩ x7).setCell ⟨b, 8, none⟩ x8).heap[b]? = some (.cells #[x0, x1, x2, x3, x4, x5, x6, x7, x8] T fz) := by
  replace h := putS (i := 0) h x0
  simp only [List.setIfInBounds_toArray, List.set_cons_succ, List.set_cons_zero] at h
  replace h := putS (i := 1) h x1
  simp only [List.setIfInBounds_toArray, List.set_cons_succ, List.set_cons_zero] at h
  replace h := putS (i := 2) h x2
  simp only [List.setIfInBounds_toArray, List.set_cons_succ, List.set_cons_zero] at h
  replace h := putS (i := 3) h x3
  simp only [List.setIfInBounds_toArray, List.set_cons_succ, List.set_cons_zero] at h
  replace h := putS (i := 4) h x4
  simp only [List.setIfInBounds_toArray, List.set_cons_succ, List.set_cons_zero] at h
  replace h := putS (i := 5) h x5
  simp only [List.setIfInBounds_toArray, List.set_cons_succ, List.set_cons_zero] at h
  replace h := putS (i := 6) h x6
  simp only [List.setIfInBounds_toArray, List.set_cons_succ, List.set_cons_zero] at h
  replace h := putS (i := 7) h x7
  simp only [List.setIfInBounds_toArray, List.set_cons_succ, List.set_cons_zero] at h
  replace h := putS (i := 8) h x8
  simp only [List.setIfInBounds_toArray, List.set_cons_succ, List.set_cons_zero] at h
  exact h
theorem put9g2 {w : World} {b : Nat} {a0 a1 a2 a3 a4 a5 a6 a7 a8 : Value} {T : TypeId} {fz : Nat × Nat} (h : w.heap[b]? = some (.cells #[a0, a1, a2, a3, a4, a5, a6, a7, a8] T fz)) (u : Value) : (w.setCell ⟨b, 2, none⟩ u).heap[b]? = some (.cells #[a0, a1, u, a3, a4, a5, a6, a7, a8] T fz) := by
  replace h := putS (i := 2) h u
  simpa only [List.setIfInBounds_toArray, List.set_cons_succ, List.set_cons_zero] using h
theorem put9g3 {w : World} {b : Nat} {a0 a1 a2 a3 a4 a5 a6 a7 a8 : Value} {T : TypeId} {fz : Nat × Nat} (h : w.heap[b]? = some (.cells #[a0, a1, a2, a3, a4, a5, a6, a7, a8] T fz)) (u : Value) : (w.setCell ⟨b, 3, none⟩ u).heap[b]? = some (.cells #[a0, a1, a2, u, a4, a5, a6, a7, a8] T fz) := by
  replace h := putS (i := 3) h u
  simpa only [List.setIfInBounds_toArray, List.set_cons_succ, List.set_cons_zero] using h
theorem put9g7 {w : World} {b : Nat} {a0 a1 a2 a3 a4 a5 a6 a7 a8 : Value} {T : TypeId} {fz : Nat × Nat} (h : w.heap[b]? = some (.cells #[a0, a1, a2, a3, a4, a5, a6, a7, a8] T fz)) (u : Value) : (w.setCell ⟨b, 7, none⟩ u).heap[b]? = some (.cells #[a0, a1, a2, a3, a4, a5, a6, u, a8] T fz) := by
  replace h := putS (i := 7) h u
  simpa only [List.setIfInBounds_toArray, List.set_cons_succ, List.set_cons_zero] using h
theorem put9g8 {w : World} {b : Nat} {a0 a1 a2 a3 a4 a5 a6 a7 a8 : Value} {T : TypeId} {fz : Nat × Nat} (h : w.heap[b]? = some (.cells #[a0, a1, a2, a3, a4, a5, a6, a7, a8] T fz)) (u : Value) : (w.setCell ⟨b, 8, none⟩ u).heap[b]? = some (.cells #[a0, a1, a2, a3, a4, a5, a6, a7, u] T fz) := by
  replace h := putS (i := 8) h u
  simpa only [List.setIfInBounds_toArray, List.set_cons_succ, List.set_cons_zero] using h
theorem chg9g {S : List Nat} {a w : World} {b : Nat} (h : Chg S a w) (hb : a.heap.size ≤ b) (x0 x1 x2 x3 x4 x5 x6 x7 x8 : Value) : Chg S a (((((((((w.setCell ⟨b, 0, none⟩ x0).setCell ⟨b, 1, none⟩ x1).setCell ⟨b, 2, none⟩ x2).setCell ⟨b, 3, none⟩ x3).setCell ⟨b, 4, none⟩ x4).setCell ⟨b, 5, none⟩ x5).setCell ⟨b, 6, none⟩ x6).setCell ⟨b, 7, none⟩ x7).setCell ⟨b, 8, none⟩ x8) := (((((((((h.setCell (p := ⟨b, 0, none⟩) (.inr hb) x0).setCell (p := ⟨b, 1, none⟩) (.inr hb) x1).setCell (p := ⟨b, 2, none⟩) (.inr hb) x2).setCell (p := ⟨b, 3, none⟩) (.inr hb) x3).setCell (p := ⟨b, 4, none⟩) (.inr hb) x4).setCell (p := ⟨b, 5, none⟩) (.inr hb) x5).setCell (p := ⟨b, 6, none⟩) (.inr hb) x6).setCell (p := ⟨b, 7, none⟩) (.inr hb) x7).setCell (p := ⟨b, 8, none⟩) (.inr hb) x8)
theorem rd9g {B rb b : Nat} {A : Option Addr} {n c m : Nat} {w : World} (h : Rd B rb A n c m w) (hB : B ≤ b) (hb : b ≠ rb) (x0 x1 x2 x3 x4 x5 x6 x7 x8 : Value) : Rd B rb A n c m (((((((((w.setCell ⟨b, 0, none⟩ x0).setCell ⟨b, 1, none⟩ x1).setCell ⟨b, 2, none⟩ x2).setCell ⟨b, 3, none⟩ x3).setCell ⟨b, 4, none⟩ x4).setCell ⟨b, 5, none⟩ x5).setCell ⟨b, 6, none⟩ x6).setCell ⟨b, 7, none⟩ x7).setCell ⟨b, 8, none⟩ x8) := (((((((((h.setCell (p := ⟨b, 0, none⟩) hB hb x0).setCell (p := ⟨b, 1, none⟩) hB hb x1).setCell (p := ⟨b, 2, none⟩) hB hb x2).setCell (p := ⟨b, 3, none⟩) hB hb x3).setCell (p := ⟨b, 4, none⟩) hB hb x4).setCell (p := ⟨b, 5, none⟩) hB hb x5).setCell (p := ⟨b, 6, none⟩) hB hb x6).setCell (p := ⟨b, 7, none⟩) hB hb x7).setCell (p := ⟨b, 8, none⟩) hB hb x8)
set_option maxRecDepth 100000 in
theorem goodCell_any {B rb : Nat} {A : Option Addr} {l c m : Nat} (n1 n2 : Nat) (w : World) (h : Rd B rb A l c m w) (hm : m ≤ 600000) (h1 : 1 ≤ n1) (h15 : n1 ≤ 5) (h2 : 1 ≤ n2) (h25 : n2 ≤ 5) :
    Calls Try.prog 78 #[.pointer (some ⟨rb, 0, none⟩), .int .i64 (n1 : Int), .int .i64 (n2 : Int)] w fun e w' => (∃ p : Ce, e = .returned (.agg #[.int .i64 p.co, .int .i64 p.ro, .int .i64 p.mc, .int .i64 p.mr, .int .i64 p.cw, .int .i64 p.ch, .int .i64 p.sk, .int .i64 p.px, .int .i64 p.py])) ∧ Rd B rb A l c (m + 20) w' ∧ Chg [rb] w w' := by
  have hlt := h.lt
  have hBrb := h.base
  go_enter Try.func78, Try.ntmps78
  go_upto_region 1 with (fail)
  refine wp_genGC (fun W => W.heap[w.heap.size]? = some (.cells #[.int .i64 0, .int .i64 0, .int .i64 0, .int .i64 0, .int .i64 0, .int .i64 0, .int .i64 0, .int .i64 0, .int .i64 0] 52 (0, 0)) ∧ Rd B rb A l c m W ∧ Chg [rb] w W ∧ w.heap.size < W.heap.size) ⟨newS _ _, h.alloc _, (Chg.refl _ _).alloc _, by simp⟩ (fun W0 h0 => ?_)
  obtain ⟨hz, hr0, hc0, hs0⟩ := h0
  have HZ := Lib.hid hz
  have HC := Lib.hid hc0
  clear hz hc0

  go_wp2_with fail
  with_reducible refine (pick_any (n1 : Int) _ hr0 (by omega)).mono ?_
  rintro e w1 ⟨⟨v1, rfl, hp⟩, hr1, hc1⟩
  obtain ⟨v1a, v1b⟩ := hp (by omega)
  replace HZ := Lib.hid ((hc1.block _ (ltS HZ.out) (by simp; omega)).trans HZ.out)
  have hs1 := hc1.size
  replace HC := Lib.hid (HC.out.trans hc1)
  clear hc1
  clear hp
  go_wp2_with fail
  with_reducible refine (pick_any (n2 : Int) _ hr1 (by omega)).mono ?_
  rintro e w2 ⟨⟨v2, rfl, hp⟩, hr2, hc2⟩
  obtain ⟨v2a, v2b⟩ := hp (by omega)
  replace HZ := Lib.hid ((hc2.block _ (ltS HZ.out) (by simp; omega)).trans HZ.out)
  have hs2 := hc2.size
  replace HC := Lib.hid (HC.out.trans hc2)
  clear hc2
  clear hp
  go_wp2_with fail
  with_reducible refine (one_lit_in (0) 30 _ hr2 (by omega) (by simp) (by omega) (by omega) (by simp [isIn])).mono ?_
  rintro e w3 ⟨⟨z3, rfl, z3a, z3b⟩, hr3, hc3⟩
  replace HZ := Lib.hid ((hc3.block _ (ltS HZ.out) (by simp; omega)).trans HZ.out)
  have hs3 := hc3.size
  replace HC := Lib.hid (HC.out.trans hc3)
  clear hc3
  go_wp2_with fail
  with_reducible refine (one_lit_in (0) 30 _ hr3 (by omega) (by simp) (by omega) (by omega) (by simp [isIn])).mono ?_
  rintro e w4 ⟨⟨z4, rfl, z4a, z4b⟩, hr4, hc4⟩
  replace HZ := Lib.hid ((hc4.block _ (ltS HZ.out) (by simp; omega)).trans HZ.out)
  have hs4 := hc4.size
  replace HC := Lib.hid (HC.out.trans hc4)
  clear hc4
  go_wp2_with fail
  with_reducible refine (pick_any 16 _ hr4 (by omega)).mono ?_
  rintro e w5 ⟨⟨v5, rfl, hp⟩, hr5, hc5⟩
  obtain ⟨v5a, v5b⟩ := hp (by omega)
  replace HZ := Lib.hid ((hc5.block _ (ltS HZ.out) (by simp; omega)).trans HZ.out)
  have hs5 := hc5.size
  replace HC := Lib.hid (HC.out.trans hc5)
  clear hc5
  clear hp
  go_wp2_with fail
  with_reducible refine (one_lit_in (0) 15 _ hr5 (by omega) (by simp) (by omega) (by omega) (by simp [isIn]; omega)).mono ?_
  rintro e w6 ⟨⟨z6, rfl, z6a, z6b⟩, hr6, hc6⟩
  replace HZ := Lib.hid ((hc6.block _ (ltS HZ.out) (by simp; omega)).trans HZ.out)
  have hs6 := hc6.size
  replace HC := Lib.hid (HC.out.trans hc6)
  clear hc6
  have HR := Lib.hid hr6
  clear hr0 hr1 hr2 hr3 hr4 hr5 hr6
  have hB6 : B ≤ w6.heap.size := by omega
  have hn6 : w6.heap.size ≠ rb := by omega
  have hn60 : w.heap.size ≠ w6.heap.size := by omega
  go_upto_region 2 with (fail)
  refine wp_genGC (fun W => W.heap[w6.heap.size]? = some (.cells #[.int .i64 v1, .int .i64 v2, .int .i64 0, .int .i64 0, .int .i64 z3, .int .i64 z4, .int .i64 z6, .int .i64 0, .int .i64 0] 52 (0, 0)) ∧ W.heap[w.heap.size]? = some (.cells #[.int .i64 0, .int .i64 0, .int .i64 0, .int .i64 0, .int .i64 0, .int .i64 0, .int .i64 0, .int .i64 0, .int .i64 0] 52 (0, 0)) ∧ Rd B rb A l c (m + 6) W ∧ Chg [rb] w W) ⟨newS _ _, (Below.heap_alloc _ _ _ (ltS HZ.out)).trans HZ.out, HR.out.alloc _, HC.out.alloc _⟩ (fun W1 h1 => ?_)
  clear HZ HR HC
  obtain ⟨hx, hz, hr, hc⟩ := h1
  have HX := Lib.hid hx
  have HZ := Lib.hid hz
  have HR := Lib.hid hr
  have HC := Lib.hid hc
  clear hx hz hr hc
  have hsw := HC.out.size
  have x2 := cellS HX.out 2
  have f2 := frozenS HX.out 2
  replace HX := Lib.hid (put9g2 HX.out (.int .i64 1))
  replace HZ := Lib.hid ((Below.heap_setCell _ ⟨w6.heap.size, 2, none⟩ (.int .i64 1) w.heap.size (by simp; omega)).trans HZ.out)
  replace HR := Lib.hid (HR.out.setCell (p := ⟨w6.heap.size, 2, none⟩) (by simp; omega) (by simp; omega) (.int .i64 1))
  replace HC := Lib.hid (HC.out.setCell (p := ⟨w6.heap.size, 2, none⟩) (.inr (by simp; omega)) (.int .i64 1))
  have x3 := cellS HX.out 3
  have f3 := frozenS HX.out 3
  replace HX := Lib.hid (put9g3 HX.out (.int .i64 1))
  replace HZ := Lib.hid ((Below.heap_setCell _ ⟨w6.heap.size, 3, none⟩ (.int .i64 1) w.heap.size (by simp; omega)).trans HZ.out)
  replace HR := Lib.hid (HR.out.setCell (p := ⟨w6.heap.size, 3, none⟩) (by simp; omega) (by simp; omega) (.int .i64 1))
  replace HC := Lib.hid (HC.out.setCell (p := ⟨w6.heap.size, 3, none⟩) (.inr (by simp; omega)) (.int .i64 1))
  go_upto_region 4 with (fail)
  refine wp_genGC (fun W => W.heap[w6.heap.size]? = some (.cells #[.int .i64 v1, .int .i64 v2, .int .i64 1, .int .i64 1, .int .i64 z3, .int .i64 z4, .int .i64 z6, .int .i64 0, .int .i64 0] 52 (0, 0)) ∧ W.heap[w.heap.size]? = some (.cells #[.int .i64 0, .int .i64 0, .int .i64 0, .int .i64 0, .int .i64 0, .int .i64 0, .int .i64 0, .int .i64 0, .int .i64 0] 52 (0, 0)) ∧ Rd B rb A l c (m + 6) W ∧ Chg [rb] w W) ⟨HX.out, HZ.out, HR.out, HC.out⟩ (fun W2 h2' => ?_)
  clear HX HZ HR HC x2 x3 f2 f3
  obtain ⟨hx, hz, hr, hc⟩ := h2'
  have HX := Lib.hid hx
  have HZ := Lib.hid hz
  have HR := Lib.hid hr
  have HC := Lib.hid hc
  clear hx hz hr hc
  go_wp2_with fail
  with_reducible refine (pick_any 3 _ HR.out (by omega)).mono ?_
  rintro e w7 ⟨⟨v7, rfl, -⟩, hr7, hc7⟩
  replace HX := Lib.hid ((hc7.block _ (ltS HX.out) (by simp; omega)).trans HX.out)
  replace HZ := Lib.hid ((hc7.block _ (ltS HZ.out) (by simp; omega)).trans HZ.out)
  replace HC := Lib.hid (HC.out.trans hc7)
  replace HR := Lib.hid hr7
  clear hr7 hc7
  by_cases hv7 : v7 = 0
  · subst hv7
    have y0 := cellS HX.out 0
    have hdn : 0 ≤ (n1 : Int) - v1 ∧ (n1 : Int) - v1 ≤ 5 := by omega
    obtain ⟨hdn0, hdn1⟩ := hdn
    go_wp2_with fail
    with_reducible refine (pick_any2 ((n1 : Int) - v1) _ HR.out (by omega)).mono ?_
    rintro e w12 ⟨⟨v12, rfl, hp, hq⟩, hr12, hc12⟩
    have hv12 : 0 ≤ v12 ∧ v12 ≤ 5 := by
      by_cases hh : 1 ≤ (n1 : Int) - v1
      · have := hp hh; omega
      · have := hq (by omega); omega
    obtain ⟨hv12a, hv12b⟩ := hv12
    replace HX := Lib.hid ((hc12.block _ (ltS HX.out) (by simp; omega)).trans HX.out)
    replace HZ := Lib.hid ((hc12.block _ (ltS HZ.out) (by simp; omega)).trans HZ.out)
    replace HC := Lib.hid (HC.out.trans hc12)
    replace HR := Lib.hid hr12
    clear hr12 hc12 hp hq y0 hdn0 hdn1
    have x2 := cellS HX.out 2
    have f2 := frozenS HX.out 2
    replace HX := Lib.hid (put9g2 HX.out (.int .i64 (1 + v12)))
    replace HZ := Lib.hid ((Below.heap_setCell _ ⟨w6.heap.size, 2, none⟩ (.int .i64 (1 + v12)) w.heap.size (by simp; omega)).trans HZ.out)
    replace HR := Lib.hid (HR.out.setCell (p := ⟨w6.heap.size, 2, none⟩) (by simp; omega) (by simp; omega) (.int .i64 (1 + v12)))
    replace HC := Lib.hid (HC.out.setCell (p := ⟨w6.heap.size, 2, none⟩) (.inr (by simp; omega)) (.int .i64 (1 + v12)))
    go_upto_region 6 with (fail)
    refine wp_genGC (fun W => W.heap[w6.heap.size]? = some (.cells #[.int .i64 v1, .int .i64 v2, .int .i64 (1 + v12), .int .i64 1, .int .i64 z3, .int .i64 z4, .int .i64 z6, .int .i64 0, .int .i64 0] 52 (0, 0)) ∧ W.heap[w.heap.size]? = some (.cells #[.int .i64 0, .int .i64 0, .int .i64 0, .int .i64 0, .int .i64 0, .int .i64 0, .int .i64 0, .int .i64 0, .int .i64 0] 52 (0, 0)) ∧ Rd B rb A l c (m + 8) W ∧ Chg [rb] w W) ⟨HX.out, HZ.out, HR.out.mono (by omega), HC.out⟩ (fun W12 h9 => ?_)
    clear HX HZ HR HC x2 f2
    obtain ⟨hx, hz, hr, hc⟩ := h9
    have HX := Lib.hid hx
    have HZ := Lib.hid hz
    have HR := Lib.hid hr
    have HC := Lib.hid hc
    clear hx hz hr hc
    have y1 := cellS HX.out 1
    have hdn : 0 ≤ (n2 : Int) - v2 ∧ (n2 : Int) - v2 ≤ 5 := by omega
    obtain ⟨hdn0, hdn1⟩ := hdn
    go_wp2_with fail
    with_reducible refine (pick_any2 ((n2 : Int) - v2) _ HR.out (by omega)).mono ?_
    rintro e w13 ⟨⟨v13, rfl, hp, hq⟩, hr13, hc13⟩
    have hv13 : 0 ≤ v13 ∧ v13 ≤ 5 := by
      by_cases hh : 1 ≤ (n2 : Int) - v2
      · have := hp hh; omega
      · have := hq (by omega); omega
    obtain ⟨hv13a, hv13b⟩ := hv13
    replace HX := Lib.hid ((hc13.block _ (ltS HX.out) (by simp; omega)).trans HX.out)
    replace HZ := Lib.hid ((hc13.block _ (ltS HZ.out) (by simp; omega)).trans HZ.out)
    replace HC := Lib.hid (HC.out.trans hc13)
    replace HR := Lib.hid hr13
    clear hr13 hc13 hp hq y1 hdn0 hdn1
    have x3 := cellS HX.out 3
    have f3 := frozenS HX.out 3
    replace HX := Lib.hid (put9g3 HX.out (.int .i64 (1 + v13)))
    replace HZ := Lib.hid ((Below.heap_setCell _ ⟨w6.heap.size, 3, none⟩ (.int .i64 (1 + v13)) w.heap.size (by simp; omega)).trans HZ.out)
    replace HR := Lib.hid (HR.out.setCell (p := ⟨w6.heap.size, 3, none⟩) (by simp; omega) (by simp; omega) (.int .i64 (1 + v13)))
    replace HC := Lib.hid (HC.out.setCell (p := ⟨w6.heap.size, 3, none⟩) (.inr (by simp; omega)) (.int .i64 (1 + v13)))
    go_upto_region 7 with (fail)
    refine wp_genGC (fun W => W.heap[w6.heap.size]? = some (.cells #[.int .i64 v1, .int .i64 v2, .int .i64 (1 + v12), .int .i64 (1 + v13), .int .i64 z3, .int .i64 z4, .int .i64 z6, .int .i64 0, .int .i64 0] 52 (0, 0)) ∧ W.heap[w.heap.size]? = some (.cells #[.int .i64 0, .int .i64 0, .int .i64 0, .int .i64 0, .int .i64 0, .int .i64 0, .int .i64 0, .int .i64 0, .int .i64 0] 52 (0, 0)) ∧ Rd B rb A l c (m + 9) W ∧ Chg [rb] w W) ⟨HX.out, HZ.out, HR.out.mono (by omega), HC.out⟩ (fun W13 h9 => ?_)
    clear HX HZ HR HC x3 f3
    obtain ⟨hx, hz, hr, hc⟩ := h9
    have HX := Lib.hid hx
    have HZ := Lib.hid hz
    have HR := Lib.hid hr
    have HC := Lib.hid hc
    clear hx hz hr hc
    go_wp2_with fail
    with_reducible refine (pick_any 3 _ HR.out (by omega)).mono ?_
    rintro e w8 ⟨⟨v8, rfl, -⟩, hr8, hc8⟩
    replace HX := Lib.hid ((hc8.block _ (ltS HX.out) (by simp; omega)).trans HX.out)
    replace HZ := Lib.hid ((hc8.block _ (ltS HZ.out) (by simp; omega)).trans HZ.out)
    replace HC := Lib.hid (HC.out.trans hc8)
    replace HR := Lib.hid hr8
    clear hr8 hc8
    by_cases hv8 : v8 = 0
    · subst hv8
      go_wp2_with fail
      with_reducible refine (pick_any 4 _ HR.out (by omega)).mono ?_
      rintro e w10 ⟨⟨v10, rfl, -⟩, hr10, hc10⟩
      replace HX := Lib.hid ((hc10.block _ (ltS HX.out) (by simp; omega)).trans HX.out)
      replace HZ := Lib.hid ((hc10.block _ (ltS HZ.out) (by simp; omega)).trans HZ.out)
      replace HC := Lib.hid (HC.out.trans hc10)
      replace HR := Lib.hid hr10
      clear hr10 hc10
      have x7 := cellS HX.out 7
      have f7 := frozenS HX.out 7
      replace HX := Lib.hid (put9g7 HX.out (.int .i64 v10))
      replace HZ := Lib.hid ((Below.heap_setCell _ ⟨w6.heap.size, 7, none⟩ (.int .i64 v10) w.heap.size (by simp; omega)).trans HZ.out)
      replace HR := Lib.hid (HR.out.setCell (p := ⟨w6.heap.size, 7, none⟩) (by simp; omega) (by simp; omega) (.int .i64 v10))
      replace HC := Lib.hid (HC.out.setCell (p := ⟨w6.heap.size, 7, none⟩) (.inr (by simp; omega)) (.int .i64 v10))
      go_upto_region 9 with (fail)
      refine wp_genGC (fun W => W.heap[w6.heap.size]? = some (.cells #[.int .i64 v1, .int .i64 v2, .int .i64 (1 + v12), .int .i64 (1 + v13), .int .i64 z3, .int .i64 z4, .int .i64 z6, .int .i64 v10, .int .i64 0] 52 (0, 0)) ∧ W.heap[w.heap.size]? = some (.cells #[.int .i64 0, .int .i64 0, .int .i64 0, .int .i64 0, .int .i64 0, .int .i64 0, .int .i64 0, .int .i64 0, .int .i64 0] 52 (0, 0)) ∧ Rd B rb A l c (m + 12) W ∧ Chg [rb] w W) ⟨HX.out, HZ.out, HR.out.mono (by omega), HC.out⟩ (fun W10 h9 => ?_)
      clear HX HZ HR HC x7 f7
      obtain ⟨hx, hz, hr, hc⟩ := h9
      have HX := Lib.hid hx
      have HZ := Lib.hid hz
      have HR := Lib.hid hr
      have HC := Lib.hid hc
      clear hx hz hr hc
      go_wp2_with fail
      with_reducible refine (pick_any 4 _ HR.out (by omega)).mono ?_
      rintro e w11 ⟨⟨v11, rfl, -⟩, hr11, hc11⟩
      replace HX := Lib.hid ((hc11.block _ (ltS HX.out) (by simp; omega)).trans HX.out)
      replace HZ := Lib.hid ((hc11.block _ (ltS HZ.out) (by simp; omega)).trans HZ.out)
      replace HC := Lib.hid (HC.out.trans hc11)
      replace HR := Lib.hid hr11
      clear hr11 hc11
      have x8 := cellS HX.out 8
      have f8 := frozenS HX.out 8
      replace HX := Lib.hid (put9g8 HX.out (.int .i64 v11))
      replace HZ := Lib.hid ((Below.heap_setCell _ ⟨w6.heap.size, 8, none⟩ (.int .i64 v11) w.heap.size (by simp; omega)).trans HZ.out)
      replace HR := Lib.hid (HR.out.setCell (p := ⟨w6.heap.size, 8, none⟩) (by simp; omega) (by simp; omega) (.int .i64 v11))
      replace HC := Lib.hid (HC.out.setCell (p := ⟨w6.heap.size, 8, none⟩) (.inr (by simp; omega)) (.int .i64 v11))
      go_upto_region 10 with (fail)
      refine wp_genGC (fun W => W.heap[w6.heap.size]? = some (.cells #[.int .i64 v1, .int .i64 v2, .int .i64 (1 + v12), .int .i64 (1 + v13), .int .i64 z3, .int .i64 z4, .int .i64 z6, .int .i64 v10, .int .i64 v11] 52 (0, 0)) ∧ W.heap[w.heap.size]? = some (.cells #[.int .i64 0, .int .i64 0, .int .i64 0, .int .i64 0, .int .i64 0, .int .i64 0, .int .i64 0, .int .i64 0, .int .i64 0] 52 (0, 0)) ∧ Rd B rb A l c (m + 13) W ∧ Chg [rb] w W) ⟨HX.out, HZ.out, HR.out.mono (by omega), HC.out⟩ (fun W11 h9 => ?_)
      clear HX HZ HR HC x8 f8
      obtain ⟨hx, hz, hr, hc⟩ := h9
      have HX := Lib.hid hx
      have HZ := Lib.hid hz
      have HR := Lib.hid hr
      have HC := Lib.hid hc
      clear hx hz hr hc
      have y0 := cellS HX.out 0
      have y1 := cellS HX.out 1
      have y2 := cellS HX.out 2
      have y3 := cellS HX.out 3
      have y4 := cellS HX.out 4
      have y5 := cellS HX.out 5
      have y6 := cellS HX.out 6
      have y7 := cellS HX.out 7
      have y8 := cellS HX.out 8
      have u0 := cellS HZ.out 0
      have u1 := cellS HZ.out 1
      have u2 := cellS HZ.out 2
      have u3 := cellS HZ.out 3
      have u4 := cellS HZ.out 4
      have u5 := cellS HZ.out 5
      have u6 := cellS HZ.out 6
      have u7 := cellS HZ.out 7
      have u8 := cellS HZ.out 8
      have g0 := frozenS HZ.out 0
      have g1 := frozenS HZ.out 1
      have g2 := frozenS HZ.out 2
      have g3 := frozenS HZ.out 3
      have g4 := frozenS HZ.out 4
      have g5 := frozenS HZ.out 5
      have g6 := frozenS HZ.out 6
      have g7 := frozenS HZ.out 7
      have g8 := frozenS HZ.out 8
      have hzl := ltS HZ.out
      have E1 := Lib.hid (put9gc HZ.out (.int .i64 v1) (.int .i64 v2) (.int .i64 (1 + v12)) (.int .i64 (1 + v13)) (.int .i64 z3) (.int .i64 z4) (.int .i64 z6) (.int .i64 v10) (.int .i64 v11))
      go_wp2
      refine bp_genGC (fun W => W.heap[w.heap.size]? = some (.cells #[.int .i64 v1, .int .i64 v2, .int .i64 (1 + v12), .int .i64 (1 + v13), .int .i64 z3, .int .i64 z4, .int .i64 z6, .int .i64 v10, .int .i64 v11] 52 (0, 0)) ∧ Rd B rb A l c (m + 20) W ∧ Chg [rb] w W) ⟨E1.out, rd9g (HR.out.mono (by omega)) (by omega) (by omega) _ _ _ _ _ _ _ _ _, chg9g HC.out (Nat.le_refl _) _ _ _ _ _ _ _ _ _⟩ ?_
      clear HX HZ HR HC E1 y0 y1 y2 y3 y4 y5 y6 y7 y8 u0 u1 u2 u3 u4 u5 u6 u7 u8 g0 g1 g2 g3 g4 g5 g6 g7 g8
      rintro W ⟨hp, hrW, hcW⟩
      have q0 := cellS hp 0
      have q1 := cellS hp 1
      have q2 := cellS hp 2
      have q3 := cellS hp 3
      have q4 := cellS hp 4
      have q5 := cellS hp 5
      have q6 := cellS hp 6
      have q7 := cellS hp 7
      have q8 := cellS hp 8
      exact bodyPost_ret (v := .agg #[.int .i64 v1, .int .i64 v2, .int .i64 (1 + v12), .int .i64 (1 + v13), .int .i64 z3, .int .i64 z4, .int .i64 z6, .int .i64 v10, .int .i64 v11]) (by simp only [results, Try.results78]; go_simp) rfl ⟨⟨⟨v1, v2, 1 + v12, 1 + v13, z3, z4, z6, v10, v11⟩, rfl⟩, hrW, hcW⟩
    · have e8 : (v8 == 0) = false := by simpa using hv8
      have y0 := cellS HX.out 0
      have y1 := cellS HX.out 1
      have y2 := cellS HX.out 2
      have y3 := cellS HX.out 3
      have y4 := cellS HX.out 4
      have y5 := cellS HX.out 5
      have y6 := cellS HX.out 6
      have y7 := cellS HX.out 7
      have y8 := cellS HX.out 8
      have u0 := cellS HZ.out 0
      have u1 := cellS HZ.out 1
      have u2 := cellS HZ.out 2
      have u3 := cellS HZ.out 3
      have u4 := cellS HZ.out 4
      have u5 := cellS HZ.out 5
      have u6 := cellS HZ.out 6
      have u7 := cellS HZ.out 7
      have u8 := cellS HZ.out 8
      have g0 := frozenS HZ.out 0
      have g1 := frozenS HZ.out 1
      have g2 := frozenS HZ.out 2
      have g3 := frozenS HZ.out 3
      have g4 := frozenS HZ.out 4
      have g5 := frozenS HZ.out 5
      have g6 := frozenS HZ.out 6
      have g7 := frozenS HZ.out 7
      have g8 := frozenS HZ.out 8
      have hzl := ltS HZ.out
      have E1 := Lib.hid (put9gc HZ.out (.int .i64 v1) (.int .i64 v2) (.int .i64 (1 + v12)) (.int .i64 (1 + v13)) (.int .i64 z3) (.int .i64 z4) (.int .i64 z6) (.int .i64 0) (.int .i64 0))
      go_wp2
      refine bp_genGC (fun W => W.heap[w.heap.size]? = some (.cells #[.int .i64 v1, .int .i64 v2, .int .i64 (1 + v12), .int .i64 (1 + v13), .int .i64 z3, .int .i64 z4, .int .i64 z6, .int .i64 0, .int .i64 0] 52 (0, 0)) ∧ Rd B rb A l c (m + 20) W ∧ Chg [rb] w W) ⟨E1.out, rd9g (HR.out.mono (by omega)) (by omega) (by omega) _ _ _ _ _ _ _ _ _, chg9g HC.out (Nat.le_refl _) _ _ _ _ _ _ _ _ _⟩ ?_
      clear HX HZ HR HC E1 y0 y1 y2 y3 y4 y5 y6 y7 y8 u0 u1 u2 u3 u4 u5 u6 u7 u8 g0 g1 g2 g3 g4 g5 g6 g7 g8
      rintro W ⟨hp, hrW, hcW⟩
      have q0 := cellS hp 0
      have q1 := cellS hp 1
      have q2 := cellS hp 2
      have q3 := cellS hp 3
      have q4 := cellS hp 4
      have q5 := cellS hp 5
      have q6 := cellS hp 6
      have q7 := cellS hp 7
      have q8 := cellS hp 8
      exact bodyPost_ret (v := .agg #[.int .i64 v1, .int .i64 v2, .int .i64 (1 + v12), .int .i64 (1 + v13), .int .i64 z3, .int .i64 z4, .int .i64 z6, .int .i64 0, .int .i64 0]) (by simp only [results, Try.results78]; go_simp) rfl ⟨⟨⟨v1, v2, 1 + v12, 1 + v13, z3, z4, z6, 0, 0⟩, rfl⟩, hrW, hcW⟩
  · have e7 : (v7 == 0) = false := by simpa using hv7
    go_wp2_with fail
    with_reducible refine (pick_any 3 _ HR.out (by omega)).mono ?_
    rintro e w8 ⟨⟨v8, rfl, -⟩, hr8, hc8⟩
    replace HX := Lib.hid ((hc8.block _ (ltS HX.out) (by simp; omega)).trans HX.out)
    replace HZ := Lib.hid ((hc8.block _ (ltS HZ.out) (by simp; omega)).trans HZ.out)
    replace HC := Lib.hid (HC.out.trans hc8)
    replace HR := Lib.hid hr8
    clear hr8 hc8
    by_cases hv8 : v8 = 0
    · subst hv8
      go_wp2_with fail
      with_reducible refine (pick_any 4 _ HR.out (by omega)).mono ?_
      rintro e w10 ⟨⟨v10, rfl, -⟩, hr10, hc10⟩
      replace HX := Lib.hid ((hc10.block _ (ltS HX.out) (by simp; omega)).trans HX.out)
      replace HZ := Lib.hid ((hc10.block _ (ltS HZ.out) (by simp; omega)).trans HZ.out)
      replace HC := Lib.hid (HC.out.trans hc10)
      replace HR := Lib.hid hr10
      clear hr10 hc10
      have x7 := cellS HX.out 7
      have f7 := frozenS HX.out 7
      replace HX := Lib.hid (put9g7 HX.out (.int .i64 v10))
      replace HZ := Lib.hid ((Below.heap_setCell _ ⟨w6.heap.size, 7, none⟩ (.int .i64 v10) w.heap.size (by simp; omega)).trans HZ.out)
      replace HR := Lib.hid (HR.out.setCell (p := ⟨w6.heap.size, 7, none⟩) (by simp; omega) (by simp; omega) (.int .i64 v10))
      replace HC := Lib.hid (HC.out.setCell (p := ⟨w6.heap.size, 7, none⟩) (.inr (by simp; omega)) (.int .i64 v10))
      go_upto_region 9 with (fail)
      refine wp_genGC (fun W => W.heap[w6.heap.size]? = some (.cells #[.int .i64 v1, .int .i64 v2, .int .i64 1, .int .i64 1, .int .i64 z3, .int .i64 z4, .int .i64 z6, .int .i64 v10, .int .i64 0] 52 (0, 0)) ∧ W.heap[w.heap.size]? = some (.cells #[.int .i64 0, .int .i64 0, .int .i64 0, .int .i64 0, .int .i64 0, .int .i64 0, .int .i64 0, .int .i64 0, .int .i64 0] 52 (0, 0)) ∧ Rd B rb A l c (m + 10) W ∧ Chg [rb] w W) ⟨HX.out, HZ.out, HR.out.mono (by omega), HC.out⟩ (fun W10 h9 => ?_)
      clear HX HZ HR HC x7 f7
      obtain ⟨hx, hz, hr, hc⟩ := h9
      have HX := Lib.hid hx
      have HZ := Lib.hid hz
      have HR := Lib.hid hr
      have HC := Lib.hid hc
      clear hx hz hr hc
      go_wp2_with fail
      with_reducible refine (pick_any 4 _ HR.out (by omega)).mono ?_
      rintro e w11 ⟨⟨v11, rfl, -⟩, hr11, hc11⟩
      replace HX := Lib.hid ((hc11.block _ (ltS HX.out) (by simp; omega)).trans HX.out)
      replace HZ := Lib.hid ((hc11.block _ (ltS HZ.out) (by simp; omega)).trans HZ.out)
      replace HC := Lib.hid (HC.out.trans hc11)
      replace HR := Lib.hid hr11
      clear hr11 hc11
      have x8 := cellS HX.out 8
      have f8 := frozenS HX.out 8
      replace HX := Lib.hid (put9g8 HX.out (.int .i64 v11))
      replace HZ := Lib.hid ((Below.heap_setCell _ ⟨w6.heap.size, 8, none⟩ (.int .i64 v11) w.heap.size (by simp; omega)).trans HZ.out)
      replace HR := Lib.hid (HR.out.setCell (p := ⟨w6.heap.size, 8, none⟩) (by simp; omega) (by simp; omega) (.int .i64 v11))
      replace HC := Lib.hid (HC.out.setCell (p := ⟨w6.heap.size, 8, none⟩) (.inr (by simp; omega)) (.int .i64 v11))
      go_upto_region 10 with (fail)
      refine wp_genGC (fun W => W.heap[w6.heap.size]? = some (.cells #[.int .i64 v1, .int .i64 v2, .int .i64 1, .int .i64 1, .int .i64 z3, .int .i64 z4, .int .i64 z6, .int .i64 v10, .int .i64 v11] 52 (0, 0)) ∧ W.heap[w.heap.size]? = some (.cells #[.int .i64 0, .int .i64 0, .int .i64 0, .int .i64 0, .int .i64 0, .int .i64 0, .int .i64 0, .int .i64 0, .int .i64 0] 52 (0, 0)) ∧ Rd B rb A l c (m + 11) W ∧ Chg [rb] w W) ⟨HX.out, HZ.out, HR.out.mono (by omega), HC.out⟩ (fun W11 h9 => ?_)
      clear HX HZ HR HC x8 f8
      obtain ⟨hx, hz, hr, hc⟩ := h9
      have HX := Lib.hid hx
      have HZ := Lib.hid hz
      have HR := Lib.hid hr
      have HC := Lib.hid hc
      clear hx hz hr hc
      have y0 := cellS HX.out 0
      have y1 := cellS HX.out 1
      have y2 := cellS HX.out 2
      have y3 := cellS HX.out 3
      have y4 := cellS HX.out 4
      have y5 := cellS HX.out 5
      have y6 := cellS HX.out 6
      have y7 := cellS HX.out 7
      have y8 := cellS HX.out 8
      have u0 := cellS HZ.out 0
      have u1 := cellS HZ.out 1
      have u2 := cellS HZ.out 2
      have u3 := cellS HZ.out 3
      have u4 := cellS HZ.out 4
      have u5 := cellS HZ.out 5
      have u6 := cellS HZ.out 6
      have u7 := cellS HZ.out 7
      have u8 := cellS HZ.out 8
      have g0 := frozenS HZ.out 0
      have g1 := frozenS HZ.out 1
      have g2 := frozenS HZ.out 2
      have g3 := frozenS HZ.out 3
      have g4 := frozenS HZ.out 4
      have g5 := frozenS HZ.out 5
      have g6 := frozenS HZ.out 6
      have g7 := frozenS HZ.out 7
      have g8 := frozenS HZ.out 8
      have hzl := ltS HZ.out
      have E1 := Lib.hid (put9gc HZ.out (.int .i64 v1) (.int .i64 v2) (.int .i64 1) (.int .i64 1) (.int .i64 z3) (.int .i64 z4) (.int .i64 z6) (.int .i64 v10) (.int .i64 v11))
      go_wp2
      refine bp_genGC (fun W => W.heap[w.heap.size]? = some (.cells #[.int .i64 v1, .int .i64 v2, .int .i64 1, .int .i64 1, .int .i64 z3, .int .i64 z4, .int .i64 z6, .int .i64 v10, .int .i64 v11] 52 (0, 0)) ∧ Rd B rb A l c (m + 20) W ∧ Chg [rb] w W) ⟨E1.out, rd9g (HR.out.mono (by omega)) (by omega) (by omega) _ _ _ _ _ _ _ _ _, chg9g HC.out (Nat.le_refl _) _ _ _ _ _ _ _ _ _⟩ ?_
      clear HX HZ HR HC E1 y0 y1 y2 y3 y4 y5 y6 y7 y8 u0 u1 u2 u3 u4 u5 u6 u7 u8 g0 g1 g2 g3 g4 g5 g6 g7 g8
      rintro W ⟨hp, hrW, hcW⟩
      have q0 := cellS hp 0
      have q1 := cellS hp 1
      have q2 := cellS hp 2
      have q3 := cellS hp 3
      have q4 := cellS hp 4
      have q5 := cellS hp 5
      have q6 := cellS hp 6
      have q7 := cellS hp 7
      have q8 := cellS hp 8
      exact bodyPost_ret (v := .agg #[.int .i64 v1, .int .i64 v2, .int .i64 1, .int .i64 1, .int .i64 z3, .int .i64 z4, .int .i64 z6, .int .i64 v10, .int .i64 v11]) (by simp only [results, Try.results78]; go_simp) rfl ⟨⟨⟨v1, v2, 1, 1, z3, z4, z6, v10, v11⟩, rfl⟩, hrW, hcW⟩
    · have e8 : (v8 == 0) = false := by simpa using hv8
      have y0 := cellS HX.out 0
      have y1 := cellS HX.out 1
      have y2 := cellS HX.out 2
      have y3 := cellS HX.out 3
      have y4 := cellS HX.out 4
      have y5 := cellS HX.out 5
      have y6 := cellS HX.out 6
      have y7 := cellS HX.out 7
      have y8 := cellS HX.out 8
      have u0 := cellS HZ.out 0
      have u1 := cellS HZ.out 1
      have u2 := cellS HZ.out 2
      have u3 := cellS HZ.out 3
      have u4 := cellS HZ.out 4
      have u5 := cellS HZ.out 5
      have u6 := cellS HZ.out 6
      have u7 := cellS HZ.out 7
      have u8 := cellS HZ.out 8
      have g0 := frozenS HZ.out 0
      have g1 := frozenS HZ.out 1
      have g2 := frozenS HZ.out 2
      have g3 := frozenS HZ.out 3
      have g4 := frozenS HZ.out 4
      have g5 := frozenS HZ.out 5
      have g6 := frozenS HZ.out 6
      have g7 := frozenS HZ.out 7
      have g8 := frozenS HZ.out 8
      have hzl := ltS HZ.out
      have E1 := Lib.hid (put9gc HZ.out (.int .i64 v1) (.int .i64 v2) (.int .i64 1) (.int .i64 1) (.int .i64 z3) (.int .i64 z4) (.int .i64 z6) (.int .i64 0) (.int .i64 0))
      go_wp2
      refine bp_genGC (fun W => W.heap[w.heap.size]? = some (.cells #[.int .i64 v1, .int .i64 v2, .int .i64 1, .int .i64 1, .int .i64 z3, .int .i64 z4, .int .i64 z6, .int .i64 0, .int .i64 0] 52 (0, 0)) ∧ Rd B rb A l c (m + 20) W ∧ Chg [rb] w W) ⟨E1.out, rd9g (HR.out.mono (by omega)) (by omega) (by omega) _ _ _ _ _ _ _ _ _, chg9g HC.out (Nat.le_refl _) _ _ _ _ _ _ _ _ _⟩ ?_
      clear HX HZ HR HC E1 y0 y1 y2 y3 y4 y5 y6 y7 y8 u0 u1 u2 u3 u4 u5 u6 u7 u8 g0 g1 g2 g3 g4 g5 g6 g7 g8
      rintro W ⟨hp, hrW, hcW⟩
      have q0 := cellS hp 0
      have q1 := cellS hp 1
      have q2 := cellS hp 2
      have q3 := cellS hp 3
      have q4 := cellS hp 4
      have q5 := cellS hp 5
      have q6 := cellS hp 6
      have q7 := cellS hp 7
      have q8 := cellS hp 8
      exact bodyPost_ret (v := .agg #[.int .i64 v1, .int .i64 v2, .int .i64 1, .int .i64 1, .int .i64 z3, .int .i64 z4, .int .i64 z6, .int .i64 0, .int .i64 0]) (by simp only [results, Try.results78]; go_simp) rfl ⟨⟨⟨v1, v2, 1, 1, z3, z4, z6, 0, 0⟩, rfl⟩, hrW, hcW⟩
end Go.Proofs.Ytjdjahckdgbkbac
end
section
namespace Go.Proofs.Ytjdjahckdgbkbac
open Go Go.RowKit
set_option linter.unusedVariables false
section
variable {P : Program}
def rgC (l : List Oper) (size : Nat) : Bool :=
  Region.noSelect l.toArray &&
  ((List.range l.length).all fun i => match l[i]? with
    | none => true
    | some o => (o.after.toList.all fun e => !Region.binds .any e || decide (e.on < i)) &&
      (o.dst.all fun d => decide (d < size) && dstIdx d l 0 == some i) &&
      ((o.looksAt l.toArray).all fun t => match dstIdx t l 0 with
        | none => true
        | some j => o.after.toList.any fun e => e.on == j && Region.binds .any e))
theorem wp_region_rgc {id : Nat} {l : List Oper} {Q : Exit → Act → World → Prop} {a0 : Act} {w : World} (T : Nat → Value → World → Prop) (R : World → World → Prop) (I : Nat → World → Prop)
    (hm : P.follows .mixedOrders = true) (hB : rgC l a0.tmps.size = true) (hRr : ∀ a, R a a) (hRt : ∀ a b c, R a b → R b c → R a c) (hTs : ∀ k v a b, T k v a → R a b → T k v b) (hI0 : I 0 w.drew)
    (hops : opsOK P l T R I a0 w.drew l 0) (hfin : ∀ w', R w.drew w' → I l.length w' → finP T w' (fun a' => Q .normal a' w') l 0 a0) : (Code.region id l.toArray true).wp P Q a0 w := by
  simp only [rgC, Bool.and_eq_true] at hB
  obtain ⟨hns, hB⟩ := hB
  have hB' : ∀ (i : Nat) (o : Oper), l[i]? = some o → (∀ e ∈ o.after, Region.binds .any e = true → e.on < i) ∧ (∀ d, o.dst = some d → d < a0.tmps.size ∧ dstIdx d l 0 = some i) ∧ (∀ t ∈ o.looksAt l.toArray, ∀ j, dstIdx t l 0 = some j → ∃ e ∈ o.after, e.on = j ∧ Region.binds .any e = true) := by
    intro i o ho
    have hlt := (List.getElem?_eq_some_iff.1 ho).1
    have h1 := List.all_eq_true.1 hB i (List.mem_range.2 hlt)
    simp only [ho, Bool.and_eq_true] at h1
    obtain ⟨⟨h1, h2⟩, h3⟩ := h1
    refine ⟨fun e he hb => by have := List.all_eq_true.1 h1 e (by simpa using he); simpa [hb] using this, fun d hd => ?_, fun t ht j hj => ?_⟩
    · rw [hd] at h2
      simp only [Option.all_some, Bool.and_eq_true, decide_eq_true_eq, beq_iff_eq] at h2
      exact h2
    · have h4 := List.all_eq_true.1 h3 t ht
      rw [hj] at h4
      obtain ⟨e, he, h5⟩ := List.any_eq_true.1 h4
      simp only [Bool.and_eq_true, beq_iff_eq] at h5
      exact ⟨e, by simpa using he, h5⟩
  have hdist : ∀ (i : Nat) (o : Oper) (j : Nat) (p : Oper), l[i]? = some o → l[j]? = some p → i ≠ j → ∀ d, o.dst = some d → p.dst ≠ some d := by
    intro i o j p ho hp hij d hd hpd
    have h1 := ((hB' i o ho).2.1 d hd).2
    rw [((hB' j p hp).2.1 d hpd).2] at h1
    injection h1 with h1
    exact hij h1.symm
  have main : ∀ (fuel m : Nat) (listed : Array Bool) (a : Act) (w' : World), cntF (fun i => listed.getD i true) l.length = fuel → listed.size = l.length → fuel + m = l.length → RJ l T R I a0 w.drew m listed a w' →
      wpAny P .any l.toArray Q fuel listed a w' := by
    intro fuel
    have hdone : ∀ (m : Nat) (listed : Array Bool) (a : Act) (w' : World), m = l.length → (∀ i, i < l.length → listed.getD i false = true) → RJ l T R I a0 w.drew m listed a w' → Q .normal a w' := by
      rintro m listed a w' rfl hall ⟨hR, hI, hd, hs, ht, hT⟩
      refine finP_to (T := T) (w := w') (F := fun a' => Q .normal a' w') (l := l) (k := 0) (b := a0) hd.symm hs.symm (fun t h => ?_) (fun j o ho hn => ?_) (hfin w' hR hI)
      · exact (ht t fun j o ho _ => h o (List.mem_of_getElem? ho)).symm
      · rw [Nat.zero_add]; exact hT j o ho (hall j (List.getElem?_eq_some_iff.1 ho).1) hn
    have hnil : ∀ (listed : Array Bool), listed.size = l.length → Region.ready .any l.toArray listed = [] → ∀ i, i < l.length → listed.getD i false = true := by
      intro listed hls hr i
      induction i using Nat.strongRecOn with
      | ind i ih =>
        intro hi
        by_cases hl : listed.getD i false = true
        · exact hl
        · exfalso
          have ho : l[i]? = some l[i] := List.getElem?_eq_getElem hi
          have hmem : i ∈ Region.ready .any l.toArray listed := mem_ready.2 ⟨by
            rw [Array.getD_eq_getD_getElem?, Array.getElem?_eq_getElem (by omega)] at *
            simp only [Option.getD_some, Bool.not_eq_true] at *
            exact hl, l[i], by simp, fun e he hb => ih e.on ((hB' i _ ho).1 e he hb) (by have := (hB' i _ ho).1 e he hb; omega)⟩
          rw [hr] at hmem
          cases hmem
    induction fuel with
    | zero =>
      intro m listed a w' hc hls hm' hJ
      have hall : ∀ i, i < l.length → listed.getD i false = true := fun i hi => by
        have := cntF_zero hc i hi
        rw [Array.getD_eq_getD_getElem?, Array.getElem?_eq_getElem (by omega)] at *
        simpa using this
      refine ⟨?_, hdone m listed a w' (by omega) hall hJ⟩
      cases hr : Region.ready .any l.toArray listed with
      | nil => rfl
      | cons x xs =>
        exfalso
        obtain ⟨h0, o, ho, _⟩ := mem_ready.1 (show x ∈ Region.ready .any l.toArray listed by rw [hr]; exact List.mem_cons_self)
        have hlt : x < l.length := by have := (Array.getElem?_eq_some_iff.1 ho).1; simpa using this
        have := hall x hlt
        rw [Array.getD_eq_getD_getElem?, Array.getElem?_eq_getElem (by omega)] at *
        simp at h0 this
        rw [h0] at this
        cases this
    | succ fuel ih =>
      intro m listed a w' hc hls hm' hJ
      refine ⟨fun hr => ?_, fun i hi => ?_⟩
      · exfalso
        have hall := hnil listed hls hr
        have : cntF (fun i => listed.getD i true) l.length = 0 := by
          rw [cntF_same (g := fun _ => true) (fun i hi => by
            have := hall i hi
            rw [Array.getD_eq_getD_getElem?, Array.getElem?_eq_getElem (by omega)] at *
            simpa using this)]
          clear hc hm' hls
          induction l.length with
          | zero => rfl
          | succ n ihn => simp [cntF, ihn]
        omega
      · obtain ⟨h0, o, ho', hall⟩ := mem_ready.1 hi
        have ho : l[i]? = some o := by simpa using ho'
        have hlt : i < l.length := (List.getElem?_eq_some_iff.1 ho).1
        obtain ⟨hR, hI, hd, hs, ht, hT⟩ := hJ
        obtain ⟨b1, b2, b3⟩ := hB' i o ho
        have hlook : ∀ t ∈ o.looksAt l.toArray, match dstIdx t l 0 with | some j => T j (tv a t) w' | none => tv a t = tv a0 t := by
          intro t htm
          cases hj : dstIdx t l 0 with
          | none =>
            refine tv_of (ht t fun j p hp _ => dstIdx_none hj p (List.mem_of_getElem? hp))
          | some j =>
            obtain ⟨e, he, rfl, hb⟩ := b3 t htm j hj
            obtain ⟨_, p, hp, hpd⟩ := dstIdx_some hj
            have := hT e.on p (by simpa using hp) (hall e he hb) (by rw [hpd]; simp)
            rw [hpd] at this
            exact this
        have hop := look_of hlook (opsOK_at hops ho m a w' (by omega) hR hI)
        rw [Nat.zero_add] at hop
        have hget : ∀ d, (listed.setIfInBounds i true).getD i d = true := fun d => by
          rw [Array.getD_eq_getD_getElem?, Array.getElem?_setIfInBounds_self_of_lt (by omega)]; rfl
        have next : ∀ v w1, T i v w1 → R w' w1 → I (m + 1) w1 → wpAny P .any l.toArray Q fuel (listed.setIfInBounds i true) (a.put o.dst v) w1 := by
          intro v w1 hTv hR1 hI1
          refine ih (m + 1) _ _ _ ?_ (by simpa using hls) (by omega) ⟨hRt _ _ _ hR hR1, hI1, (put_defers' _ _ _).trans hd, (put_size _ _ _).trans hs, fun t h => ?_, fun j p hp hl hn => ?_⟩
          · have := cntF_set (f := fun i => listed.getD i true) (g := fun j => (listed.setIfInBounds i true).getD j true) (i := i) h0 (hget true) (fun j hj => getD_set_ne true (Ne.symm hj)) hlt
            omega
          · have hne : o.dst ≠ some t := h i o ho (hget false)
            rw [put_ne _ _ _ hne]
            exact ht t fun j p hp hl => h j p hp (getD_set_true hl)
          · by_cases e : i = j
            · subst e
              rw [ho] at hp
              obtain rfl := Option.some.inj hp
              cases hod : o.dst with
              | none => exact absurd hod hn
              | some d =>
                have : tv (a.put (some d) v) d = v := by
                  unfold tv
                  rw [Array.getD_eq_getD_getElem?, put_same _ _ _ (by rw [hs]; exact (b2 d hod).1)]
                  rfl
                simp only [vof]
                rw [this]
                exact hTv
            · rw [getD_set_ne false e] at hl
              have h2 := hTs j _ w' w1 (hT j p hp hl hn) hR1
              cases hpd : p.dst with
              | none => exact absurd hpd hn
              | some d =>
                rw [hpd] at h2
                simp only [vof] at h2 ⊢
                rw [show tv (a.put o.dst v) d = tv a d from tv_of (put_ne _ _ _ (fun hod => hdist i o j p ho hp e d hod hpd))]
                exact h2
        unfold wpOp
        simp only [ho']
        cases hg : o.guard with
        | none =>
          rw [hg] at hop
          rw [if_pos (by simp [Region.wanted, hg])]
          exact .inl (wp_of_gives hop fun v w1 ⟨h1, h2, h3⟩ => next v w1 h1 h2 h3)
        | some g =>
          rw [hg] at hop
          obtain ⟨g1, g2⟩ := hop
          split
          · rename_i hw
            exact .inl (wp_of_gives (g1 hw) fun v w1 ⟨h1, h2, h3⟩ => next v w1 h1 h2 h3)
          · rename_i hw
            obtain ⟨h1, h2⟩ := g2 (by simpa using hw)
            exact next undef w' h1 (hRr _) h2
  refine wp_region_any hm ?_
  refine main l.toArray.size 0 _ a0 w.drew ?_ (by simp) (by simp) ⟨hRr _, hI0, rfl, rfl, fun t _ => rfl, fun j o ho hl => ?_⟩
  · have : ∀ n, n ≤ l.length → cntF (fun i => (Array.replicate l.toArray.size false).getD i true) n = n := by
      intro n
      induction n with
      | zero => intro _; rfl
      | succ n ihn =>
        intro hn
        simp only [cntF]
        rw [ihn (by omega)]
        have : (Array.replicate l.toArray.size false).getD n true = false := by
          rw [Array.getD_eq_getD_getElem?, Array.getElem?_replicate, if_pos (by simp; omega)]; rfl
        rw [if_neg (by rw [this]; decide)]
    simpa using this l.length (Nat.le_refl _)
  · exfalso
    rw [Array.getD_eq_getD_getElem?, Array.getElem?_replicate] at hl
    split at hl <;> simp at hl
theorem wp_region_rglc {id : Nat} {l : List Oper} {Q : Exit → Act → World → Prop} {a0 : Act} {w : World} (T : Nat → Value → World → Prop) (R : World → World → Prop) (I : Nat → World → Prop)
    (hm : P.follows .mixedOrders = true) (hB : rgC l a0.tmps.size = true) (hRr : ∀ a, R a a) (hRt : ∀ a b c, R a b → R b c → R a c) (hTs : ∀ k v a b, T k v a → R a b → T k v b) (hI0 : I 0 w.drew)
    (hops : opsOK P l T R I a0 w.drew l 0) (hfin : ∀ w', R w.drew w' → I l.length w' → finP T w' (fun a' => Q .normal a' w') l 0 a0) : (Code.region id l.toArray true).wp P Q a0 w := wp_region_rgc T R I hm hB hRr hRt hTs hI0 hops hfin
end
end Go.Proofs.Ytjdjahckdgbkbac
end
