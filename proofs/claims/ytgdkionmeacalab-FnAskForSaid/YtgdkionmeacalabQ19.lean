import Derived.Test.YtgdkionmeacalabQ18
section
namespace Go.Proofs.Ytgdkionmeacalab
open Go.RowKit
set_option linter.unusedVariables false
set_option maxHeartbeats 1000000
attribute [local go_sem] growUpon_value growUpon_skip growUpon_enter
theorem wp_genGC {P : Program} {c : Code} {Q : Exit → Act → World → Prop} {a : Act} {W : World} (F : World → Prop) (hF : F W) (h : ∀ W0, F W0 → c.wp P Q a W0) : c.wp P Q a W := h W hF
theorem bp_genGC {P : Program} {f : Func} {R : Ending → World → Prop} {e : Exit} {a : Act} {W : World} (F : World → Prop) (hF : F W) (h : ∀ W0, F W0 → bodyPost P f R e a W0) : bodyPost P f R e a W := h W hF
theorem put9gc {w : World} {b : Nat} {a0 a1 a2 a3 a4 a5 a6 a7 a8 : Value} {T : TypeId} {fz : Nat × Nat} (h : w.heap[b]? = some (.cells #[a0, a1, a2, a3, a4, a5, a6, a7, a8] T fz)) (x0 x1 x2 x3 x4 x5 x6 x7 x8 : Value) :
    (((((((((w.setCell ⟨b, 0, none⟩ x0).setCell ⟨b, 1, none⟩ x1).setCell ⟨b, 2, none⟩ x2).setCell ⟨b, 3, none⟩ x3).setCell ⟨b, 4, none⟩ x4).setCell ⟨b, 5, none⟩ x5).setCell ⟨b, 6, none⟩ x6).setCell ⟨b, 7, none⟩ x7).setCell ⟨b, 8, none⟩ x8).heap[b]? = some (.cells #[x0, x1, x2, x3, x4, x5, x6, x7, x8] T fz) := by
  replace h := putS (i := 0) h x0
  simp only [List.setIfInBounds_toArray, List.set_cons_succ, List.set_cons_zero] at h
  replace h := putS (i := 1) h x1
  simp only [List.setIfInBounds_toArray, List.set_cons_succ, List.set_cons_zero] at h
  replace h := putS (i := 2) h x2
  simp only [List.setIfInBounds_toArray, List.set_cons_succ, List.set_cons_zero] at h
  replace h := putS (i := 3) h x3
  simp only [List.setIfInBounds_toArray, List.set_cons_succ, List.set_cons_zero] at h
  replace h := putS (i := 4) h x4
  simp only [List.setIfInBounds_toArray, List.set_cons_succ, List.set_cons_zero] at h
  replace h := putS (i := 5) h x5
  simp only [List.setIfInBounds_toArray, List.set_cons_succ, List.set_cons_zero] at h
  replace h := putS (i := 6) h x6
  simp only [List.setIfInBounds_toArray, List.set_cons_succ, List.set_cons_zero] at h
  replace h := putS (i := 7) h x7
  simp only [List.setIfInBounds_toArray, List.set_cons_succ, List.set_cons_zero] at h
  replace h := putS (i := 8) h x8
  simp only [List.setIfInBounds_toArray, List.set_cons_succ, List.set_cons_zero] at h
  exact h
theorem put9g2 {w : World} {b : Nat} {a0 a1 a2 a3 a4 a5 a6 a7 a8 : Value} {T : TypeId} {fz : Nat × Nat} (h : w.heap[b]? = some (.cells #[a0, a1, a2, a3, a4, a5, a6, a7, a8] T fz)) (u : Value) : (w.setCell ⟨b, 2, none⟩ u).heap[b]? = some (.cells #[a0, a1, u, a3, a4, a5, a6, a7, a8] T fz) := by
  replace h := putS (i := 2) h u
  simpa only [List.setIfInBounds_toArray, List.set_cons_succ, List.set_cons_zero] using h
theorem put9g3 {w : World} {b : Nat} {a0 a1 a2 a3 a4 a5 a6 a7 a8 : Value} {T : TypeId} {fz : Nat × Nat} (h : w.heap[b]? = some (.cells #[a0, a1, a2, a3, a4, a5, a6, a7, a8] T fz)) (u : Value) : (w.setCell ⟨b, 3, none⟩ u).heap[b]? = some (.cells #[a0, a1, a2, u, a4, a5, a6, a7, a8] T fz) := by
  replace h := putS (i := 3) h u
  simpa only [List.setIfInBounds_toArray, List.set_cons_succ, List.set_cons_zero] using h
theorem put9g7 {w : World} {b : Nat} {a0 a1 a2 a3 a4 a5 a6 a7 a8 : Value} {T : TypeId} {fz : Nat × Nat} (h : w.heap[b]? = some (.cells #[a0, a1, a2, a3, a4, a5, a6, a7, a8] T fz)) (u : Value) : (w.setCell ⟨b, 7, none⟩ u).heap[b]? = some (.cells #[a0, a1, a2, a3, a4, a5, a6, u, a8] T fz) := by
  replace h := putS (i := 7) h u
  simpa only [List.setIfInBounds_toArray, List.set_cons_succ, List.set_cons_zero] using h
theorem put9g8 {w : World} {b : Nat} {a0 a1 a2 a3 a4 a5 a6 a7 a8 : Value} {T : TypeId} {fz : Nat × Nat} (h : w.heap[b]? = some (.cells #[a0, a1, a2, a3, a4, a5, a6, a7, a8] T fz)) (u : Value) : (w.setCell ⟨b, 8, none⟩ u).heap[b]? = some (.cells #[a0, a1, a2, a3, a4, a5, a6, a7, u] T fz) := by
  replace h := putS (i := 8) h u
  simpa only [List.setIfInBounds_toArray, List.set_cons_succ, List.set_cons_zero] using h
theorem chg9g {S : List Nat} {a w : World} {b : Nat} (h : Chg S a w) (hb : a.heap.size ≤ b) (x0 x1 x2 x3 x4 x5 x6 x7 x8 : Value) : Chg S a (((((((((w.setCell ⟨b, 0, none⟩ x0).setCell ⟨b, 1, none⟩ x1).setCell ⟨b, 2, none⟩ x2).setCell ⟨b, 3, none⟩ x3).setCell ⟨b, 4, none⟩ x4).setCell ⟨b, 5, none⟩ x5).setCell ⟨b, 6, none⟩ x6).setCell ⟨b, 7, none⟩ x7).setCell ⟨b, 8, none⟩ x8) := (((((((((h.setCell (p := ⟨b, 0, none⟩) (.inr hb) x0).setCell (p := ⟨b, 1, none⟩) (.inr hb) x1).setCell (p := ⟨b, 2, none⟩) (.inr hb) x2).setCell (p := ⟨b, 3, none⟩) (.inr hb) x3).setCell (p := ⟨b, 4, none⟩) (.inr hb) x4).setCell (p := ⟨b, 5, none⟩) (.inr hb) x5).setCell (p := ⟨b, 6, none⟩) (.inr hb) x6).setCell (p := ⟨b, 7, none⟩) (.inr hb) x7).setCell (p := ⟨b, 8, none⟩) (.inr hb) x8)
theorem rd9g {B rb b : Nat} {A : Option Addr} {n c m : Nat} {w : World} (h : Rd B rb A n c m w) (hB : B ≤ b) (hb : b ≠ rb) (x0 x1 x2 x3 x4 x5 x6 x7 x8 : Value) : Rd B rb A n c m (((((((((w.setCell ⟨b, 0, none⟩ x0).setCell ⟨b, 1, none⟩ x1).setCell ⟨b, 2, none⟩ x2).setCell ⟨b, 3, none⟩ x3).setCell ⟨b, 4, none⟩ x4).setCell ⟨b, 5, none⟩ x5).setCell ⟨b, 6, none⟩ x6).setCell ⟨b, 7, none⟩ x7).setCell ⟨b, 8, none⟩ x8) := (((((((((h.setCell (p := ⟨b, 0, none⟩) hB hb x0).setCell (p := ⟨b, 1, none⟩) hB hb x1).setCell (p := ⟨b, 2, none⟩) hB hb x2).setCell (p := ⟨b, 3, none⟩) hB hb x3).setCell (p := ⟨b, 4, none⟩) hB hb x4).setCell (p := ⟨b, 5, none⟩) hB hb x5).setCell (p := ⟨b, 6, none⟩) hB hb x6).setCell (p := ⟨b, 7, none⟩) hB hb x7).setCell (p := ⟨b, 8, none⟩) hB hb x8)
set_option maxRecDepth 100000 in
theorem goodCell_any {B rb : Nat} {A : Option Addr} {l c m : Nat} (n1 n2 : Nat) (w : World) (h : Rd B rb A l c m w) (hm : m ≤ 600000) (h1 : 1 ≤ n1) (h15 : n1 ≤ 5) (h2 : 1 ≤ n2) (h25 : n2 ≤ 5) :
    Calls Try.prog 68 #[.pointer (some ⟨rb, 0, none⟩), .int .i64 (n1 : Int), .int .i64 (n2 : Int)] w fun e w' => (∃ p : Ce, e = .returned (.agg #[.int .i64 p.co, .int .i64 p.ro, .int .i64 p.mc, .int .i64 p.mr, .int .i64 p.cw, .int .i64 p.ch, .int .i64 p.sk, .int .i64 p.px, .int .i64 p.py])) ∧ Rd B rb A l c (m + 20) w' ∧ Chg [rb] w w' := by
  have hlt := h.lt
  have hBrb := h.base
  go_enter Try.func68, Try.ntmps68
  go_upto_region 1 with (fail)
  refine wp_genGC (fun W => W.heap[w.heap.size]? = some (.cells #[.int .i64 0, .int .i64 0, .int .i64 0, .int .i64 0, .int .i64 0, .int .i64 0, .int .i64 0, .int .i64 0, .int .i64 0] 35 (0, 0)) ∧ Rd B rb A l c m W ∧ Chg [rb] w W ∧ w.heap.size < W.heap.size) ⟨newS _ _, h.alloc _, (Chg.refl _ _).alloc _, by simp⟩ (fun W0 h0 => ?_)
  obtain ⟨hz, hr0, hc0, hs0⟩ := h0
  have HZ := Lib.hid hz
  have HC := Lib.hid hc0
  clear hz hc0

  go_wp2_with fail
  with_reducible refine (pick_any (n1 : Int) _ hr0 (by omega)).mono ?_
  rintro e w1 ⟨⟨v1, rfl, hp⟩, hr1, hc1⟩
  obtain ⟨v1a, v1b⟩ := hp (by omega)
  replace HZ := Lib.hid ((hc1.block _ (ltS HZ.out) (by simp; omega)).trans HZ.out)
  have hs1 := hc1.size
  replace HC := Lib.hid (HC.out.trans hc1)
  clear hc1
  clear hp
  go_wp2_with fail
  with_reducible refine (pick_any (n2 : Int) _ hr1 (by omega)).mono ?_
  rintro e w2 ⟨⟨v2, rfl, hp⟩, hr2, hc2⟩
  obtain ⟨v2a, v2b⟩ := hp (by omega)
  replace HZ := Lib.hid ((hc2.block _ (ltS HZ.out) (by simp; omega)).trans HZ.out)
  have hs2 := hc2.size
  replace HC := Lib.hid (HC.out.trans hc2)
  clear hc2
  clear hp
  go_wp2_with fail
  with_reducible refine (one_lit_in (0) 30 _ hr2 (by omega) (by simp) (by omega) (by omega) (by simp [isIn])).mono ?_
  rintro e w3 ⟨⟨z3, rfl, z3a, z3b⟩, hr3, hc3⟩
  replace HZ := Lib.hid ((hc3.block _ (ltS HZ.out) (by simp; omega)).trans HZ.out)
  have hs3 := hc3.size
  replace HC := Lib.hid (HC.out.trans hc3)
  clear hc3
  go_wp2_with fail
  with_reducible refine (one_lit_in (0) 30 _ hr3 (by omega) (by simp) (by omega) (by omega) (by simp [isIn])).mono ?_
  rintro e w4 ⟨⟨z4, rfl, z4a, z4b⟩, hr4, hc4⟩
  replace HZ := Lib.hid ((hc4.block _ (ltS HZ.out) (by simp; omega)).trans HZ.out)
  have hs4 := hc4.size
  replace HC := Lib.hid (HC.out.trans hc4)
  clear hc4
  go_wp2_with fail
  with_reducible refine (pick_any 16 _ hr4 (by omega)).mono ?_
  rintro e w5 ⟨⟨v5, rfl, hp⟩, hr5, hc5⟩
  obtain ⟨v5a, v5b⟩ := hp (by omega)
  replace HZ := Lib.hid ((hc5.block _ (ltS HZ.out) (by simp; omega)).trans HZ.out)
  have hs5 := hc5.size
  replace HC := Lib.hid (HC.out.trans hc5)
  clear hc5
  clear hp
  go_wp2_with fail
  with_reducible refine (one_lit_in (0) 15 _ hr5 (by omega) (by simp) (by omega) (by omega) (by simp [isIn]; omega)).mono ?_
  rintro e w6 ⟨⟨z6, rfl, z6a, z6b⟩, hr6, hc6⟩
  replace HZ := Lib.hid ((hc6.block _ (ltS HZ.out) (by simp; omega)).trans HZ.out)
  have hs6 := hc6.size
  replace HC := Lib.hid (HC.out.trans hc6)
  clear hc6
  have HR := Lib.hid hr6
  clear hr0 hr1 hr2 hr3 hr4 hr5 hr6
  have hB6 : B ≤ w6.heap.size := by omega
  have hn6 : w6.heap.size ≠ rb := by omega
  have hn60 : w.heap.size ≠ w6.heap.size := by omega
  go_upto_region 2 with (fail)
  refine wp_genGC (fun W => W.heap[w6.heap.size]? = some (.cells #[.int .i64 v1, .int .i64 v2, .int .i64 0, .int .i64 0, .int .i64 z3, .int .i64 z4, .int .i64 z6, .int .i64 0, .int .i64 0] 35 (0, 0)) ∧ W.heap[w.heap.size]? = some (.cells #[.int .i64 0, .int .i64 0, .int .i64 0, .int .i64 0, .int .i64 0, .int .i64 0, .int .i64 0, .int .i64 0, .int .i64 0] 35 (0, 0)) ∧ Rd B rb A l c (m + 6) W ∧ Chg [rb] w W) ⟨newS _ _, (Below.heap_alloc _ _ _ (ltS HZ.out)).trans HZ.out, HR.out.alloc _, HC.out.alloc _⟩ (fun W1 h1 => ?_)
  clear HZ HR HC
  obtain ⟨hx, hz, hr, hc⟩ := h1
  have HX := Lib.hid hx
  have HZ := Lib.hid hz
  have HR := Lib.hid hr
  have HC := Lib.hid hc
  clear hx hz hr hc
  have hsw := HC.out.size
  have x2 := cellS HX.out 2
  have f2 := frozenS HX.out 2
  replace HX := Lib.hid (put9g2 HX.out (.int .i64 1))
  replace HZ := Lib.hid ((Below.heap_setCell _ ⟨w6.heap.size, 2, none⟩ (.int .i64 1) w.heap.size (by simp; omega)).trans HZ.out)
  replace HR := Lib.hid (HR.out.setCell (p := ⟨w6.heap.size, 2, none⟩) (by simp; omega) (by simp; omega) (.int .i64 1))
  replace HC := Lib.hid (HC.out.setCell (p := ⟨w6.heap.size, 2, none⟩) (.inr (by simp; omega)) (.int .i64 1))
  have x3 := cellS HX.out 3
  have f3 := frozenS HX.out 3
  replace HX := Lib.hid (put9g3 HX.out (.int .i64 1))
  replace HZ := Lib.hid ((Below.heap_setCell _ ⟨w6.heap.size, 3, none⟩ (.int .i64 1) w.heap.size (by simp; omega)).trans HZ.out)
  replace HR := Lib.hid (HR.out.setCell (p := ⟨w6.heap.size, 3, none⟩) (by simp; omega) (by simp; omega) (.int .i64 1))
  replace HC := Lib.hid (HC.out.setCell (p := ⟨w6.heap.size, 3, none⟩) (.inr (by simp; omega)) (.int .i64 1))
  go_upto_region 4 with (fail)
  refine wp_genGC (fun W => W.heap[w6.heap.size]? = some (.cells #[.int .i64 v1, .int .i64 v2, .int .i64 1, .int .i64 1, .int .i64 z3, .int .i64 z4, .int .i64 z6, .int .i64 0, .int .i64 0] 35 (0, 0)) ∧ W.heap[w.heap.size]? = some (.cells #[.int .i64 0, .int .i64 0, .int .i64 0, .int .i64 0, .int .i64 0, .int .i64 0, .int .i64 0, .int .i64 0, .int .i64 0] 35 (0, 0)) ∧ Rd B rb A l c (m + 6) W ∧ Chg [rb] w W) ⟨HX.out, HZ.out, HR.out, HC.out⟩ (fun W2 h2' => ?_)
  clear HX HZ HR HC x2 x3 f2 f3
  obtain ⟨hx, hz, hr, hc⟩ := h2'
  have HX := Lib.hid hx
  have HZ := Lib.hid hz
  have HR := Lib.hid hr
  have HC := Lib.hid hc
  clear hx hz hr hc
  go_wp2_with fail
  with_reducible refine (pick_any 3 _ HR.out (by omega)).mono ?_
  rintro e w7 ⟨⟨v7, rfl, -⟩, hr7, hc7⟩
  replace HX := Lib.hid ((hc7.block _ (ltS HX.out) (by simp; omega)).trans HX.out)
  replace HZ := Lib.hid ((hc7.block _ (ltS HZ.out) (by simp; omega)).trans HZ.out)
  replace HC := Lib.hid (HC.out.trans hc7)
  replace HR := Lib.hid hr7
  clear hr7 hc7
  by_cases hv7 : v7 = 0
  · subst hv7
    have y0 := cellS HX.out 0
    have hdn : 0 ≤ (n1 : Int) - v1 ∧ (n1 : Int) - v1 ≤ 5 := by omega
    obtain ⟨hdn0, hdn1⟩ := hdn
    go_wp2_with fail
    with_reducible refine (pick_any2 ((n1 : Int) - v1) _ HR.out (by omega)).mono ?_
    rintro e w12 ⟨⟨v12, rfl, hp, hq⟩, hr12, hc12⟩
    have hv12 : 0 ≤ v12 ∧ v12 ≤ 5 := by
      by_cases hh : 1 ≤ (n1 : Int) - v1
      · have := hp hh; omega
      · have := hq (by omega); omega
    obtain ⟨hv12a, hv12b⟩ := hv12
    replace HX := Lib.hid ((hc12.block _ (ltS HX.out) (by simp; omega)).trans HX.out)
    replace HZ := Lib.hid ((hc12.block _ (ltS HZ.out) (by simp; omega)).trans HZ.out)
    replace HC := Lib.hid (HC.out.trans hc12)
    replace HR := Lib.hid hr12
    clear hr12 hc12 hp hq y0 hdn0 hdn1
    have x2 := cellS HX.out 2
    have f2 := frozenS HX.out 2
    replace HX := Lib.hid (put9g2 HX.out (.int .i64 (1 + v12)))
    replace HZ := Lib.hid ((Below.heap_setCell _ ⟨w6.heap.size, 2, none⟩ (.int .i64 (1 + v12)) w.heap.size (by simp; omega)).trans HZ.out)
    replace HR := Lib.hid (HR.out.setCell (p := ⟨w6.heap.size, 2, none⟩) (by simp; omega) (by simp; omega) (.int .i64 (1 + v12)))
    replace HC := Lib.hid (HC.out.setCell (p := ⟨w6.heap.size, 2, none⟩) (.inr (by simp; omega)) (.int .i64 (1 + v12)))
    go_upto_region 6 with (fail)
    refine wp_genGC (fun W => W.heap[w6.heap.size]? = some (.cells #[.int .i64 v1, .int .i64 v2, .int .i64 (1 + v12), .int .i64 1, .int .i64 z3, .int .i64 z4, .int .i64 z6, .int .i64 0, .int .i64 0] 35 (0, 0)) ∧ W.heap[w.heap.size]? = some (.cells #[.int .i64 0, .int .i64 0, .int .i64 0, .int .i64 0, .int .i64 0, .int .i64 0, .int .i64 0, .int .i64 0, .int .i64 0] 35 (0, 0)) ∧ Rd B rb A l c (m + 8) W ∧ Chg [rb] w W) ⟨HX.out, HZ.out, HR.out.mono (by omega), HC.out⟩ (fun W12 h9 => ?_)
    clear HX HZ HR HC x2 f2
    obtain ⟨hx, hz, hr, hc⟩ := h9
    have HX := Lib.hid hx
    have HZ := Lib.hid hz
    have HR := Lib.hid hr
    have HC := Lib.hid hc
    clear hx hz hr hc
    have y1 := cellS HX.out 1
    have hdn : 0 ≤ (n2 : Int) - v2 ∧ (n2 : Int) - v2 ≤ 5 := by omega
    obtain ⟨hdn0, hdn1⟩ := hdn
    go_wp2_with fail
    with_reducible refine (pick_any2 ((n2 : Int) - v2) _ HR.out (by omega)).mono ?_
    rintro e w13 ⟨⟨v13, rfl, hp, hq⟩, hr13, hc13⟩
    have hv13 : 0 ≤ v13 ∧ v13 ≤ 5 := by
      by_cases hh : 1 ≤ (n2 : Int) - v2
      · have := hp hh; omega
      · have := hq (by omega); omega
    obtain ⟨hv13a, hv13b⟩ := hv13
    replace HX := Lib.hid ((hc13.block _ (ltS HX.out) (by simp; omega)).trans HX.out)
    replace HZ := Lib.hid ((hc13.block _ (ltS HZ.out) (by simp; omega)).trans HZ.out)
    replace HC := Lib.hid (HC.out.trans hc13)
    replace HR := Lib.hid hr13
    clear hr13 hc13 hp hq y1 hdn0 hdn1
    have x3 := cellS HX.out 3
    have f3 := frozenS HX.out 3
    replace HX := Lib.hid (put9g3 HX.out (.int .i64 (1 + v13)))
    replace HZ := Lib.hid ((Below.heap_setCell _ ⟨w6.heap.size, 3, none⟩ (.int .i64 (1 + v13)) w.heap.size (by simp; omega)).trans HZ.out)
    replace HR := Lib.hid (HR.out.setCell (p := ⟨w6.heap.size, 3, none⟩) (by simp; omega) (by simp; omega) (.int .i64 (1 + v13)))
    replace HC := Lib.hid (HC.out.setCell (p := ⟨w6.heap.size, 3, none⟩) (.inr (by simp; omega)) (.int .i64 (1 + v13)))
    go_upto_region 7 with (fail)
    refine wp_genGC (fun W => W.heap[w6.heap.size]? = some (.cells #[.int .i64 v1, .int .i64 v2, .int .i64 (1 + v12), .int .i64 (1 + v13), .int .i64 z3, .int .i64 z4, .int .i64 z6, .int .i64 0, .int .i64 0] 35 (0, 0)) ∧ W.heap[w.heap.size]? = some (.cells #[.int .i64 0, .int .i64 0, .int .i64 0, .int .i64 0, .int .i64 0, .int .i64 0, .int .i64 0, .int .i64 0, .int .i64 0] 35 (0, 0)) ∧ Rd B rb A l c (m + 9) W ∧ Chg [rb] w W) ⟨HX.out, HZ.out, HR.out.mono (by omega), HC.out⟩ (fun W13 h9 => ?_)
    clear HX HZ HR HC x3 f3
    obtain ⟨hx, hz, hr, hc⟩ := h9
    have HX := Lib.hid hx
    have HZ := Lib.hid hz
    have HR := Lib.hid hr
    have HC := Lib.hid hc
    clear hx hz hr hc
    go_wp2_with fail
    with_reducible refine (pick_any 3 _ HR.out (by omega)).mono ?_
    rintro e w8 ⟨⟨v8, rfl, -⟩, hr8, hc8⟩
    replace HX := Lib.hid ((hc8.block _ (ltS HX.out) (by simp; omega)).trans HX.out)
    replace HZ := Lib.hid ((hc8.block _ (ltS HZ.out) (by simp; omega)).trans HZ.out)
    replace HC := Lib.hid (HC.out.trans hc8)
    replace HR := Lib.hid hr8
    clear hr8 hc8
    by_cases hv8 : v8 = 0
    · subst hv8
      go_wp2_with fail
      with_reducible refine (pick_any 4 _ HR.out (by omega)).mono ?_
      rintro e w10 ⟨⟨v10, rfl, -⟩, hr10, hc10⟩
      replace HX := Lib.hid ((hc10.block _ (ltS HX.out) (by simp; omega)).trans HX.out)
      replace HZ := Lib.hid ((hc10.block _ (ltS HZ.out) (by simp; omega)).trans HZ.out)
      replace HC := Lib.hid (HC.out.trans hc10)
      replace HR := Lib.hid hr10
      clear hr10 hc10
      have x7 := cellS HX.out 7
      have f7 := frozenS HX.out 7
      replace HX := Lib.hid (put9g7 HX.out (.int .i64 v10))
      replace HZ := Lib.hid ((Below.heap_setCell _ ⟨w6.heap.size, 7, none⟩ (.int .i64 v10) w.heap.size (by simp; omega)).trans HZ.out)
      replace HR := Lib.hid (HR.out.setCell (p := ⟨w6.heap.size, 7, none⟩) (by simp; omega) (by simp; omega) (.int .i64 v10))
      replace HC := Lib.hid (HC.out.setCell (p := ⟨w6.heap.size, 7, none⟩) (.inr (by simp; omega)) (.int .i64 v10))
      go_upto_region 9 with (fail)
      refine wp_genGC (fun W => W.heap[w6.heap.size]? = some (.cells #[.int .i64 v1, .int .i64 v2, .int .i64 (1 + v12), .int .i64 (1 + v13), .int .i64 z3, .int .i64 z4, .int .i64 z6, .int .i64 v10, .int .i64 0] 35 (0, 0)) ∧ W.heap[w.heap.size]? = some (.cells #[.int .i64 0, .int .i64 0, .int .i64 0, .int .i64 0, .int .i64 0, .int .i64 0, .int .i64 0, .int .i64 0, .int .i64 0] 35 (0, 0)) ∧ Rd B rb A l c (m + 12) W ∧ Chg [rb] w W) ⟨HX.out, HZ.out, HR.out.mono (by omega), HC.out⟩ (fun W10 h9 => ?_)
      clear HX HZ HR HC x7 f7
      obtain ⟨hx, hz, hr, hc⟩ := h9
      have HX := Lib.hid hx
      have HZ := Lib.hid hz
      have HR := Lib.hid hr
      have HC := Lib.hid hc
      clear hx hz hr hc
      go_wp2_with fail
      with_reducible refine (pick_any 4 _ HR.out (by omega)).mono ?_
      rintro e w11 ⟨⟨v11, rfl, -⟩, hr11, hc11⟩
      replace HX := Lib.hid ((hc11.block _ (ltS HX.out) (by simp; omega)).trans HX.out)
      replace HZ := Lib.hid ((hc11.block _ (ltS HZ.out) (by simp; omega)).trans HZ.out)
      replace HC := Lib.hid (HC.out.trans hc11)
      replace HR := Lib.hid hr11
      clear hr11 hc11
      have x8 := cellS HX.out 8
      have f8 := frozenS HX.out 8
      replace HX := Lib.hid (put9g8 HX.out (.int .i64 v11))
      replace HZ := Lib.hid ((Below.heap_setCell _ ⟨w6.heap.size, 8, none⟩ (.int .i64 v11) w.heap.size (by simp; omega)).trans HZ.out)
      replace HR := Lib.hid (HR.out.setCell (p := ⟨w6.heap.size, 8, none⟩) (by simp; omega) (by simp; omega) (.int .i64 v11))
      replace HC := Lib.hid (HC.out.setCell (p := ⟨w6.heap.size, 8, none⟩) (.inr (by simp; omega)) (.int .i64 v11))
      go_upto_region 10 with (fail)
      refine wp_genGC (fun W => W.heap[w6.heap.size]? = some (.cells #[.int .i64 v1, .int .i64 v2, .int .i64 (1 + v12), .int .i64 (1 + v13), .int .i64 z3, .int .i64 z4, .int .i64 z6, .int .i64 v10, .int .i64 v11] 35 (0, 0)) ∧ W.heap[w.heap.size]? = some (.cells #[.int .i64 0, .int .i64 0, .int .i64 0, .int .i64 0, .int .i64 0, .int .i64 0, .int .i64 0, .int .i64 0, .int .i64 0] 35 (0, 0)) ∧ Rd B rb A l c (m + 13) W ∧ Chg [rb] w W) ⟨HX.out, HZ.out, HR.out.mono (by omega), HC.out⟩ (fun W11 h9 => ?_)
      clear HX HZ HR HC x8 f8
      obtain ⟨hx, hz, hr, hc⟩ := h9
      have HX := Lib.hid hx
      have HZ := Lib.hid hz
      have HR := Lib.hid hr
      have HC := Lib.hid hc
      clear hx hz hr hc
      have y0 := cellS HX.out 0
      have y1 := cellS HX.out 1
      have y2 := cellS HX.out 2
      have y3 := cellS HX.out 3
      have y4 := cellS HX.out 4
      have y5 := cellS HX.out 5
      have y6 := cellS HX.out 6
      have y7 := cellS HX.out 7
      have y8 := cellS HX.out 8
      have u0 := cellS HZ.out 0
      have u1 := cellS HZ.out 1
      have u2 := cellS HZ.out 2
      have u3 := cellS HZ.out 3
      have u4 := cellS HZ.out 4
      have u5 := cellS HZ.out 5
      have u6 := cellS HZ.out 6
      have u7 := cellS HZ.out 7
      have u8 := cellS HZ.out 8
      have g0 := frozenS HZ.out 0
      have g1 := frozenS HZ.out 1
      have g2 := frozenS HZ.out 2
      have g3 := frozenS HZ.out 3
      have g4 := frozenS HZ.out 4
      have g5 := frozenS HZ.out 5
      have g6 := frozenS HZ.out 6
      have g7 := frozenS HZ.out 7
      have g8 := frozenS HZ.out 8
      have hzl := ltS HZ.out
      have E1 := Lib.hid (put9gc HZ.out (.int .i64 v1) (.int .i64 v2) (.int .i64 (1 + v12)) (.int .i64 (1 + v13)) (.int .i64 z3) (.int .i64 z4) (.int .i64 z6) (.int .i64 v10) (.int .i64 v11))
      go_wp2
      refine bp_genGC (fun W => W.heap[w.heap.size]? = some (.cells #[.int .i64 v1, .int .i64 v2, .int .i64 (1 + v12), .int .i64 (1 + v13), .int .i64 z3, .int .i64 z4, .int .i64 z6, .int .i64 v10, .int .i64 v11] 35 (0, 0)) ∧ Rd B rb A l c (m + 20) W ∧ Chg [rb] w W) ⟨E1.out, rd9g (HR.out.mono (by omega)) (by omega) (by omega) _ _ _ _ _ _ _ _ _, chg9g HC.out (Nat.le_refl _) _ _ _ _ _ _ _ _ _⟩ ?_
      clear HX HZ HR HC E1 y0 y1 y2 y3 y4 y5 y6 y7 y8 u0 u1 u2 u3 u4 u5 u6 u7 u8 g0 g1 g2 g3 g4 g5 g6 g7 g8
      rintro W ⟨hp, hrW, hcW⟩
      have q0 := cellS hp 0
      have q1 := cellS hp 1
      have q2 := cellS hp 2
      have q3 := cellS hp 3
      have q4 := cellS hp 4
      have q5 := cellS hp 5
      have q6 := cellS hp 6
      have q7 := cellS hp 7
      have q8 := cellS hp 8
      exact bodyPost_ret (v := .agg #[.int .i64 v1, .int .i64 v2, .int .i64 (1 + v12), .int .i64 (1 + v13), .int .i64 z3, .int .i64 z4, .int .i64 z6, .int .i64 v10, .int .i64 v11]) (by simp only [results, Try.results68]; go_simp) rfl ⟨⟨⟨v1, v2, 1 + v12, 1 + v13, z3, z4, z6, v10, v11⟩, rfl⟩, hrW, hcW⟩
    · have e8 : (v8 == 0) = false := by simpa using hv8
      have y0 := cellS HX.out 0
      have y1 := cellS HX.out 1
      have y2 := cellS HX.out 2
      have y3 := cellS HX.out 3
      have y4 := cellS HX.out 4
      have y5 := cellS HX.out 5
      have y6 := cellS HX.out 6
      have y7 := cellS HX.out 7
      have y8 := cellS HX.out 8
      have u0 := cellS HZ.out 0
      have u1 := cellS HZ.out 1
      have u2 := cellS HZ.out 2
      have u3 := cellS HZ.out 3
      have u4 := cellS HZ.out 4
      have u5 := cellS HZ.out 5
      have u6 := cellS HZ.out 6
      have u7 := cellS HZ.out 7
      have u8 := cellS HZ.out 8
      have g0 := frozenS HZ.out 0
      have g1 := frozenS HZ.out 1
      have g2 := frozenS HZ.out 2
      have g3 := frozenS HZ.out 3
      have g4 := frozenS HZ.out 4
      have g5 := frozenS HZ.out 5
      have g6 := frozenS HZ.out 6
      have g7 := frozenS HZ.out 7
      have g8 := frozenS HZ.out 8
      have hzl := ltS HZ.out
      have E1 := Lib.hid (put9gc HZ.out (.int .i64 v1) (.int .i64 v2) (.int .i64 (1 + v12)) (.int .i64 (1 + v13)) (.int .i64 z3) (.int .i64 z4) (.int .i64 z6) (.int .i64 0) (.int .i64 0))
      go_wp2
      refine bp_genGC (fun W => W.heap[w.heap.size]? = some (.cells #[.int .i64 v1, .int .i64 v2, .int .i64 (1 + v12), .int .i64 (1 + v13), .int .i64 z3, .int .i64 z4, .int .i64 z6, .int .i64 0, .int .i64 0] 35 (0, 0)) ∧ Rd B rb A l c (m + 20) W ∧ Chg [rb] w W) ⟨E1.out, rd9g (HR.out.mono (by omega)) (by omega) (by omega) _ _ _ _ _ _ _ _ _, chg9g HC.out (Nat.le_refl _) _ _ _ _ _ _ _ _ _⟩ ?_
      clear HX HZ HR HC E1 y0 y1 y2 y3 y4 y5 y6 y7 y8 u0 u1 u2 u3 u4 u5 u6 u7 u8 g0 g1 g2 g3 g4 g5 g6 g7 g8
      rintro W ⟨hp, hrW, hcW⟩
      have q0 := cellS hp 0
      have q1 := cellS hp 1
      have q2 := cellS hp 2
      have q3 := cellS hp 3
      have q4 := cellS hp 4
      have q5 := cellS hp 5
      have q6 := cellS hp 6
      have q7 := cellS hp 7
      have q8 := cellS hp 8
      exact bodyPost_ret (v := .agg #[.int .i64 v1, .int .i64 v2, .int .i64 (1 + v12), .int .i64 (1 + v13), .int .i64 z3, .int .i64 z4, .int .i64 z6, .int .i64 0, .int .i64 0]) (by simp only [results, Try.results68]; go_simp) rfl ⟨⟨⟨v1, v2, 1 + v12, 1 + v13, z3, z4, z6, 0, 0⟩, rfl⟩, hrW, hcW⟩
  · have e7 : (v7 == 0) = false := by simpa using hv7
    go_wp2_with fail
    with_reducible refine (pick_any 3 _ HR.out (by omega)).mono ?_
    rintro e w8 ⟨⟨v8, rfl, -⟩, hr8, hc8⟩
    replace HX := Lib.hid ((hc8.block _ (ltS HX.out) (by simp; omega)).trans HX.out)
    replace HZ := Lib.hid ((hc8.block _ (ltS HZ.out) (by simp; omega)).trans HZ.out)
    replace HC := Lib.hid (HC.out.trans hc8)
    replace HR := Lib.hid hr8
    clear hr8 hc8
    by_cases hv8 : v8 = 0
    · subst hv8
      go_wp2_with fail
      with_reducible refine (pick_any 4 _ HR.out (by omega)).mono ?_
      rintro e w10 ⟨⟨v10, rfl, -⟩, hr10, hc10⟩
      replace HX := Lib.hid ((hc10.block _ (ltS HX.out) (by simp; omega)).trans HX.out)
      replace HZ := Lib.hid ((hc10.block _ (ltS HZ.out) (by simp; omega)).trans HZ.out)
      replace HC := Lib.hid (HC.out.trans hc10)
      replace HR := Lib.hid hr10
      clear hr10 hc10
      have x7 := cellS HX.out 7
      have f7 := frozenS HX.out 7
      replace HX := Lib.hid (put9g7 HX.out (.int .i64 v10))
      replace HZ := Lib.hid ((Below.heap_setCell _ ⟨w6.heap.size, 7, none⟩ (.int .i64 v10) w.heap.size (by simp; omega)).trans HZ.out)
      replace HR := Lib.hid (HR.out.setCell (p := ⟨w6.heap.size, 7, none⟩) (by simp; omega) (by simp; omega) (.int .i64 v10))
      replace HC := Lib.hid (HC.out.setCell (p := ⟨w6.heap.size, 7, none⟩) (.inr (by simp; omega)) (.int .i64 v10))
      go_upto_region 9 with (fail)
      refine wp_genGC (fun W => W.heap[w6.heap.size]? = some (.cells #[.int .i64 v1, .int .i64 v2, .int .i64 1, .int .i64 1, .int .i64 z3, .int .i64 z4, .int .i64 z6, .int .i64 v10, .int .i64 0] 35 (0, 0)) ∧ W.heap[w.heap.size]? = some (.cells #[.int .i64 0, .int .i64 0, .int .i64 0, .int .i64 0, .int .i64 0, .int .i64 0, .int .i64 0, .int .i64 0, .int .i64 0] 35 (0, 0)) ∧ Rd B rb A l c (m + 10) W ∧ Chg [rb] w W) ⟨HX.out, HZ.out, HR.out.mono (by omega), HC.out⟩ (fun W10 h9 => ?_)
      clear HX HZ HR HC x7 f7
      obtain ⟨hx, hz, hr, hc⟩ := h9
      have HX := Lib.hid hx
      have HZ := Lib.hid hz
      have HR := Lib.hid hr
      have HC := Lib.hid hc
      clear hx hz hr hc
      go_wp2_with fail
      with_reducible refine (pick_any 4 _ HR.out (by omega)).mono ?_
      rintro e w11 ⟨⟨v11, rfl, -⟩, hr11, hc11⟩
      replace HX := Lib.hid ((hc11.block _ (ltS HX.out) (by simp; omega)).trans HX.out)
      replace HZ := Lib.hid ((hc11.block _ (ltS HZ.out) (by simp; omega)).trans HZ.out)
      replace HC := Lib.hid (HC.out.trans hc11)
      replace HR := Lib.hid hr11
      clear hr11 hc11
      have x8 := cellS HX.out 8
      have f8 := frozenS HX.out 8
      replace HX := Lib.hid (put9g8 HX.out (.int .i64 v11))
      replace HZ := Lib.hid ((Below.heap_setCell _ ⟨w6.heap.size, 8, none⟩ (.int .i64 v11) w.heap.size (by simp; omega)).trans HZ.out)
      replace HR := Lib.hid (HR.out.setCell (p := ⟨w6.heap.size, 8, none⟩) (by simp; omega) (by simp; omega) (.int .i64 v11))
      replace HC := Lib.hid (HC.out.setCell (p := ⟨w6.heap.size, 8, none⟩) (.inr (by simp; omega)) (.int .i64 v11))
      go_upto_region 10 with (fail)
      refine wp_genGC (fun W => W.heap[w6.heap.size]? = some (.cells #[.int .i64 v1, .int .i64 v2, .int .i64 1, .int .i64 1, .int .i64 z3, .int .i64 z4, .int .i64 z6, .int .i64 v10, .int .i64 v11] 35 (0, 0)) ∧ W.heap[w.heap.size]? = some (.cells #[.int .i64 0, .int .i64 0, .int .i64 0, .int .i64 0, .int .i64 0, .int .i64 0, .int .i64 0, .int .i64 0, .int .i64 0] 35 (0, 0)) ∧ Rd B rb A l c (m + 11) W ∧ Chg [rb] w W) ⟨HX.out, HZ.out, HR.out.mono (by omega), HC.out⟩ (fun W11 h9 => ?_)
      clear HX HZ HR HC x8 f8
      obtain ⟨hx, hz, hr, hc⟩ := h9
      have HX := Lib.hid hx
      have HZ := Lib.hid hz
      have HR := Lib.hid hr
      have HC := Lib.hid hc
      clear hx hz hr hc
      have y0 := cellS HX.out 0
      have y1 := cellS HX.out 1
      have y2 := cellS HX.out 2
      have y3 := cellS HX.out 3
      have y4 := cellS HX.out 4
      have y5 := cellS HX.out 5
      have y6 := cellS HX.out 6
      have y7 := cellS HX.out 7
      have y8 := cellS HX.out 8
      have u0 := cellS HZ.out 0
      have u1 := cellS HZ.out 1
      have u2 := cellS HZ.out 2
      have u3 := cellS HZ.out 3
      have u4 := cellS HZ.out 4
      have u5 := cellS HZ.out 5
      have u6 := cellS HZ.out 6
      have u7 := cellS HZ.out 7
      have u8 := cellS HZ.out 8
      have g0 := frozenS HZ.out 0
      have g1 := frozenS HZ.out 1
      have g2 := frozenS HZ.out 2
      have g3 := frozenS HZ.out 3
      have g4 := frozenS HZ.out 4
      have g5 := frozenS HZ.out 5
      have g6 := frozenS HZ.out 6
      have g7 := frozenS HZ.out 7
      have g8 := frozenS HZ.out 8
      have hzl := ltS HZ.out
      have E1 := Lib.hid (put9gc HZ.out (.int .i64 v1) (.int .i64 v2) (.int .i64 1) (.int .i64 1) (.int .i64 z3) (.int .i64 z4) (.int .i64 z6) (.int .i64 v10) (.int .i64 v11))
      go_wp2
      refine bp_genGC (fun W => W.heap[w.heap.size]? = some (.cells #[.int .i64 v1, .int .i64 v2, .int .i64 1, .int .i64 1, .int .i64 z3, .int .i64 z4, .int .i64 z6, .int .i64 v10, .int .i64 v11] 35 (0, 0)) ∧ Rd B rb A l c (m + 20) W ∧ Chg [rb] w W) ⟨E1.out, rd9g (HR.out.mono (by omega)) (by omega) (by omega) _ _ _ _ _ _ _ _ _, chg9g HC.out (Nat.le_refl _) _ _ _ _ _ _ _ _ _⟩ ?_
      clear HX HZ HR HC E1 y0 y1 y2 y3 y4 y5 y6 y7 y8 u0 u1 u2 u3 u4 u5 u6 u7 u8 g0 g1 g2 g3 g4 g5 g6 g7 g8
      rintro W ⟨hp, hrW, hcW⟩
      have q0 := cellS hp 0
      have q1 := cellS hp 1
      have q2 := cellS hp 2
      have q3 := cellS hp 3
      have q4 := cellS hp 4
      have q5 := cellS hp 5
      have q6 := cellS hp 6
      have q7 := cellS hp 7
      have q8 := cellS hp 8
      exact bodyPost_ret (v := .agg #[.int .i64 v1, .int .i64 v2, .int .i64 1, .int .i64 1, .int .i64 z3, .int .i64 z4, .int .i64 z6, .int .i64 v10, .int .i64 v11]) (by simp only [results, Try.results68]; go_simp) rfl ⟨⟨⟨v1, v2, 1, 1, z3, z4, z6, v10, v11⟩, rfl⟩, hrW, hcW⟩
    · have e8 : (v8 == 0) = false := by simpa using hv8
      have y0 := cellS HX.out 0
      have y1 := cellS HX.out 1
      have y2 := cellS HX.out 2
      have y3 := cellS HX.out 3
      have y4 := cellS HX.out 4
      have y5 := cellS HX.out 5
      have y6 := cellS HX.out 6
      have y7 := cellS HX.out 7
      have y8 := cellS HX.out 8
      have u0 := cellS HZ.out 0
      have u1 := cellS HZ.out 1
      have u2 := cellS HZ.out 2
      have u3 := cellS HZ.out 3
      have u4 := cellS HZ.out 4
      have u5 := cellS HZ.out 5
      have u6 := cellS HZ.out 6
      have u7 := cellS HZ.out 7
      have u8 := cellS HZ.out 8
      have g0 := frozenS HZ.out 0
      have g1 := frozenS HZ.out 1
      have g2 := frozenS HZ.out 2
      have g3 := frozenS HZ.out 3
      have g4 := frozenS HZ.out 4
      have g5 := frozenS HZ.out 5
      have g6 := frozenS HZ.out 6
      have g7 := frozenS HZ.out 7
      have g8 := frozenS HZ.out 8
      have hzl := ltS HZ.out
      have E1 := Lib.hid (put9gc HZ.out (.int .i64 v1) (.int .i64 v2) (.int .i64 1) (.int .i64 1) (.int .i64 z3) (.int .i64 z4) (.int .i64 z6) (.int .i64 0) (.int .i64 0))
      go_wp2
      refine bp_genGC (fun W => W.heap[w.heap.size]? = some (.cells #[.int .i64 v1, .int .i64 v2, .int .i64 1, .int .i64 1, .int .i64 z3, .int .i64 z4, .int .i64 z6, .int .i64 0, .int .i64 0] 35 (0, 0)) ∧ Rd B rb A l c (m + 20) W ∧ Chg [rb] w W) ⟨E1.out, rd9g (HR.out.mono (by omega)) (by omega) (by omega) _ _ _ _ _ _ _ _ _, chg9g HC.out (Nat.le_refl _) _ _ _ _ _ _ _ _ _⟩ ?_
      clear HX HZ HR HC E1 y0 y1 y2 y3 y4 y5 y6 y7 y8 u0 u1 u2 u3 u4 u5 u6 u7 u8 g0 g1 g2 g3 g4 g5 g6 g7 g8
      rintro W ⟨hp, hrW, hcW⟩
      have q0 := cellS hp 0
      have q1 := cellS hp 1
      have q2 := cellS hp 2
      have q3 := cellS hp 3
      have q4 := cellS hp 4
      have q5 := cellS hp 5
      have q6 := cellS hp 6
      have q7 := cellS hp 7
      have q8 := cellS hp 8
      exact bodyPost_ret (v := .agg #[.int .i64 v1, .int .i64 v2, .int .i64 1, .int .i64 1, .int .i64 z3, .int .i64 z4, .int .i64 z6, .int .i64 0, .int .i64 0]) (by simp only [results, Try.results68]; go_simp) rfl ⟨⟨⟨v1, v2, 1, 1, z3, z4, z6, 0, 0⟩, rfl⟩, hrW, hcW⟩
end Go.Proofs.Ytgdkionmeacalab
end
section
namespace Go.Proofs.Ytgdkionmeacalab
open Go.RowKit
set_option linter.unusedVariables false
set_option maxHeartbeats 1000000
attribute [local go_sem 5000] run_mx run_mn
attribute [local go_sem] growUpon_value growUpon_skip growUpon_enter
theorem fz_q {w : World} {b : Nat} {cs : Array Value} {T : TypeId} (h : w.heap[b]? = some (.cells cs T (0, 0))) (i : Nat) : w.frozen? ⟨b, i, none⟩ = false := by simp [World.frozen?, h]
theorem c9_q {w : World} {b : Nat} {a0 a1 a2 a3 a4 a5 a6 a7 a8 : Value} {T : TypeId} {fz : Nat × Nat} (h : w.heap[b]? = some (.cells #[a0, a1, a2, a3, a4, a5, a6, a7, a8] T fz)) :
    w.cell? ⟨b, 0, none⟩ = some a0 ∧ w.cell? ⟨b, 1, none⟩ = some a1 ∧ w.cell? ⟨b, 2, none⟩ = some a2 ∧ w.cell? ⟨b, 3, none⟩ = some a3 ∧ w.cell? ⟨b, 4, none⟩ = some a4 ∧ w.cell? ⟨b, 5, none⟩ = some a5 ∧ w.cell? ⟨b, 6, none⟩ = some a6 ∧ w.cell? ⟨b, 7, none⟩ = some a7 ∧ w.cell? ⟨b, 8, none⟩ = some a8 :=
  ⟨cl_q h 0, cl_q h 1, cl_q h 2, cl_q h 3, cl_q h 4, cl_q h 5, cl_q h 6, cl_q h 7, cl_q h 8⟩
theorem f9_q {w : World} {b : Nat} {cs : Array Value} {T : TypeId} (h : w.heap[b]? = some (.cells cs T (0, 0))) : w.frozen? ⟨b, 0, none⟩ = false ∧ w.frozen? ⟨b, 1, none⟩ = false ∧ w.frozen? ⟨b, 2, none⟩ = false ∧ w.frozen? ⟨b, 3, none⟩ = false ∧ w.frozen? ⟨b, 4, none⟩ = false ∧ w.frozen? ⟨b, 5, none⟩ = false ∧ w.frozen? ⟨b, 6, none⟩ = false ∧ w.frozen? ⟨b, 7, none⟩ = false ∧ w.frozen? ⟨b, 8, none⟩ = false :=
  ⟨fz_q h 0, fz_q h 1, fz_q h 2, fz_q h 3, fz_q h 4, fz_q h 5, fz_q h 6, fz_q h 7, fz_q h 8⟩
end Go.Proofs.Ytgdkionmeacalab
end
section
namespace Go.Proofs.Ytgdkionmeacalab
open Go.RowKit
set_option linter.unusedVariables false
set_option maxHeartbeats 2000000
theorem one_lit1 {B rb : Nat} {A : Option Addr} {l c m k : Nat} {cs : Array Value} {T : TypeId} (w : World) (o : Obj) (h : Rd B rb A l c m w) (hm : m ≤ 1000000) (hk : cs.size = k) (h1 : 1 ≤ k) (h2 : k ≤ 100) (ha : cs.toList.all isI = true) :
    Calls Try.prog 20 #[.pointer (some ⟨rb, 0, none⟩), .slice (some ⟨w.heap.size + 1, 0, none⟩) k k] ((w.alloc o).alloc (.cells cs T)) fun e w' => (∃ z, e = .returned (.int .i64 z)) ∧ Rd B rb A l c (m + 1) w' ∧ Chg [rb] (w.alloc o) w' := by
  have := one_lit (cs := cs) (T := T) (w.alloc o) (h.alloc o) hm hk h1 h2 ha
  rwa [World.size_alloc] at this
set_option maxRecDepth 100000 in
theorem goodPlace_any {B rb : Nat} {A : Option Addr} {l c m : Nat} (w : World) (h : Rd B rb A l c m w) (hm : m ≤ 900000) :
    Calls Try.prog 67 #[.pointer (some ⟨rb, 0, none⟩)] w fun e w' => (∃ (v0 v1 v2 v3 v4 v5 v6 v7 v8 : Int), e = .returned (.agg #[.int .i64 v0, .int .i64 v1, .int .i64 v2, .int .i64 v3, .int .i64 v4, .int .i64 v5, .int .i64 v6, .int .i64 v7, .int .i64 v8])) ∧ Rd B rb A l c (m + 10) w' ∧ Chg [rb] w w' := by
  have hlt := h.lt
  have hbase := h.base
  go_enter Try.func67, Try.ntmps67
  go_wp2_with fail
  with_reducible refine (one_lit1 _ _ h (by omega) (by simp) (by omega) (by omega) (by simp [isI])).mono ?_
  rintro e w1 ⟨⟨z1, rfl⟩, hr1, hc1⟩
  go_wp2_with fail
  with_reducible refine (one_lit _ hr1 (by omega) (by simp) (by omega) (by omega) (by simp [isI])).mono ?_
  rintro e w2 ⟨⟨z2, rfl⟩, hr2, hc2⟩
  go_wp2_with fail
  with_reducible refine (one_lit _ hr2 (by omega) (by simp) (by omega) (by omega) (by simp [isI])).mono ?_
  rintro e w3 ⟨⟨z3, rfl⟩, hr3, hc3⟩
  go_wp2_with fail
  with_reducible refine (one_lit _ hr3 (by omega) (by simp) (by omega) (by omega) (by simp [isI])).mono ?_
  rintro e w4 ⟨⟨z4, rfl⟩, hr4, hc4⟩
  go_wp2_with fail
  with_reducible refine (one_lit _ hr4 (by omega) (by simp) (by omega) (by omega) (by simp [isI])).mono ?_
  rintro e w5 ⟨⟨z5, rfl⟩, hr5, hc5⟩
  go_wp2_with fail
  with_reducible refine (one_lit _ hr5 (by omega) (by simp) (by omega) (by omega) (by simp [isI])).mono ?_
  rintro e w6 ⟨⟨z6, rfl⟩, hr6, hc6⟩
  go_wp2_with fail
  with_reducible refine (one_lit _ hr6 (by omega) (by simp) (by omega) (by omega) (by simp [isI])).mono ?_
  rintro e w7 ⟨⟨z7, rfl⟩, hr7, hc7⟩
  go_wp2_with fail
  with_reducible refine (one_lit _ hr7 (by omega) (by simp) (by omega) (by omega) (by simp [isI])).mono ?_
  rintro e w8 ⟨⟨z8, rfl⟩, hr8, hc8⟩
  go_wp2_with fail
  with_reducible refine (pick_any _ _ hr8 (by omega)).mono ?_
  rintro e w9 ⟨⟨z9, rfl, -⟩, hr9, hc9⟩
  go_wp2_with fail
  with_reducible refine (one_lit _ hr9 (by omega) (by simp) (by omega) (by omega) (by simp [isI])).mono ?_
  rintro e w10 ⟨⟨z10, rfl⟩, hr10, hc10⟩
  have hc : Chg [rb] (w.alloc _) w10 := (((((((((hc1).trans hc2).trans hc3).trans hc4).trans hc5).trans hc6).trans hc7).trans hc8).trans hc9).trans hc10
  clear hc1 hc2 hc3 hc4 hc5 hc6 hc7 hc8 hc9 hc10 hr1 hr2 hr3 hr4 hr5 hr6 hr7 hr8 hr9
  have hb0 := (hc.block w.heap.size (by simp) (by simp; omega)).trans (heap_alloc_new w _)
  have hs := hc.size
  simp only [World.size_alloc] at hs
  have HC := Lib.hid ((((Chg.refl [rb] w).alloc _).trans hc).alloc (.cells #[.int .i64 z1, .int .i64 z2, .int .i64 z3, .int .i64 z4, .int .i64 z5, .int .i64 z6, .int .i64 z7, .int .i64 z8, .int .i64 z10] 37))
  have hl7 := hr10.lt
  have hx0 := Nat.lt_of_succ_le hs
  have hn0 : w.heap.size ≠ rb := by omega
  have hB0 : B ≤ w.heap.size := by omega
  have hn1 : w10.heap.size ≠ rb := by omega
  have hB1 : B ≤ w10.heap.size := by omega
  have hn01 : w.heap.size ≠ w10.heap.size := by omega
  have hn10 : ¬ w10.heap.size = w.heap.size := by omega
  have hw1 : w.heap.size ≤ w10.heap.size := by omega
  have HR := Lib.hid (hr10.alloc (.cells #[.int .i64 z1, .int .i64 z2, .int .i64 z3, .int .i64 z4, .int .i64 z5, .int .i64 z6, .int .i64 z7, .int .i64 z8, .int .i64 z10] 37))
  have HB1 := Lib.hid (heap_alloc_new w10 (.cells #[.int .i64 z1, .int .i64 z2, .int .i64 z3, .int .i64 z4, .int .i64 z5, .int .i64 z6, .int .i64 z7, .int .i64 z8, .int .i64 z10] 37))
  have HB0 := Lib.hid ((Below.heap_alloc w10 (.cells #[.int .i64 z1, .int .i64 z2, .int .i64 z3, .int .i64 z4, .int .i64 z5, .int .i64 z6, .int .i64 z7, .int .i64 z8, .int .i64 z10] 37) w.heap.size hx0).trans hb0)
  clear hc hlt hbase hs hl7 hb0 hr10
  go_upto_region 2 with (fail)
  refine wp_genG (fun W => W.heap[w.heap.size]? = some (.cells #[.int .i64 0, .int .i64 0, .int .i64 0, .int .i64 0, .int .i64 0, .int .i64 0, .int .i64 0, .int .i64 0, .int .i64 0] 37) ∧ W.heap[w10.heap.size]? = some (.cells #[.int .i64 z1, .int .i64 z2, .int .i64 z3, .int .i64 z4, .int .i64 z5, .int .i64 z6, .int .i64 z7, .int .i64 z8, .int .i64 z10] 37) ∧ Rd B rb A l c (m + 10) W ∧ Chg [rb] w W) ⟨HB0.out, HB1.out, HR.out.mono (by omega), HC.out⟩ (fun wz hwz => ?_)
  clear HB0 HB1 HR HC
  obtain ⟨k0, k1, k2, k3⟩ := hwz
  have HB0 := Lib.hid k0
  have HB1 := Lib.hid k1
  have HR := Lib.hid k2
  have HC := Lib.hid k3
  clear k0 k1 k2 k3
  have h0 := HB0.out
  have h1 := HB1.out
  obtain ⟨c0, c1, c2, c3, c4, c5, c6, c7, c8⟩ := c9_q h1
  obtain ⟨d0, d1, d2, d3, d4, d5, d6, d7, d8⟩ := c9_q h0
  obtain ⟨f0, f1, f2, f3, f4, f5, f6, f7, f8⟩ := f9_q h0
  clear h0 h1
  go_wp2
  refine bp_gen (fun W => W.heap[w.heap.size]? = some (.cells #[.int .i64 z1, .int .i64 z2, .int .i64 z3, .int .i64 z4, .int .i64 z5, .int .i64 z6, .int .i64 z7, .int .i64 z8, .int .i64 z10] 37) ∧ Rd B rb A l c (m + 10) W ∧ Chg [rb] w W) ⟨put9h HB0.out (.int .i64 z1) (.int .i64 z2) (.int .i64 z3) (.int .i64 z4) (.int .i64 z5) (.int .i64 z6) (.int .i64 z7) (.int .i64 z8) (.int .i64 z10), put9r (HR.out.mono (by omega)) hB0 hn0 (.int .i64 z1) (.int .i64 z2) (.int .i64 z3) (.int .i64 z4) (.int .i64 z5) (.int .i64 z6) (.int .i64 z7) (.int .i64 z8) (.int .i64 z10), put9c HC.out (.inr (Nat.le_refl _)) (.int .i64 z1) (.int .i64 z2) (.int .i64 z3) (.int .i64 z4) (.int .i64 z5) (.int .i64 z6) (.int .i64 z7) (.int .i64 z8) (.int .i64 z10)⟩ ?_
  clear HB0 HB1 HC HR c0 c1 c2 c3 c4 c5 c6 c7 c8 d0 d1 d2 d3 d4 d5 d6 d7 d8 f0 f1 f2 f3 f4 f5 f6 f7 f8
  rintro W ⟨h0, hR, hC⟩
  obtain ⟨d0, d1, d2, d3, d4, d5, d6, d7, d8⟩ := c9_q h0
  exact bodyPost_ret (v := .agg #[.int .i64 z1, .int .i64 z2, .int .i64 z3, .int .i64 z4, .int .i64 z5, .int .i64 z6, .int .i64 z7, .int .i64 z8, .int .i64 z10]) (by simp only [results, Try.results67]; go_simp) rfl ⟨⟨_, _, _, _, _, _, _, _, _, rfl⟩, hR, hC⟩
end Go.Proofs.Ytgdkionmeacalab
end
section
namespace Go.Proofs.Ytgdkionmeacalab
open Go.RowKit
set_option linter.unusedVariables false
set_option linter.unusedSimpArgs false
set_option maxHeartbeats 2000000
/-! Trees that are drawn: what lies where. -/
def nrvals : List Nr → List Value
  | [] => []
  | p :: t => valsNr p ++ nrvals t
theorem nrvals_append (A B : List Nr) : nrvals (A ++ B) = nrvals A ++ nrvals B := by
  induction A with
  | nil => rfl
  | cons p A ih => simp only [List.cons_append, nrvals, ih, List.append_assoc]
theorem nrvals_snoc (L : List Nr) (p : Nr) : nrvals L ++ valsNr p = nrvals (L ++ [p]) := by rw [nrvals_append]; simp [nrvals]
theorem nrvals_get : ∀ {M : List Nr} {i : Nat} {r : Nr}, M[i]? = some r → ∀ j, j < 34 → (nrvals M)[i * 34 + j]? = (valsNr r)[j]?
  | [], i, r, h, _, _ => by simp at h
  | q :: t, 0, r, h, j, hj => by
    simp at h; subst h
    show (valsNr q ++ nrvals t)[0 * 34 + j]? = _
    rw [List.getElem?_append_left (by rw [valsNr_len]; omega)]; simp
  | q :: t, i + 1, r, h, j, hj => by
    show (valsNr q ++ nrvals t)[(i + 1) * 34 + j]? = _
    rw [List.getElem?_append_right (by rw [valsNr_len]; omega)]
    have := nrvals_get (M := t) (i := i) (r := r) (by simpa using h) j hj
    rw [← this]; congr 1; rw [valsNr_len]; omega
theorem nr_info : ∃ (i : TypeInfo) (z : Value), Try.prog.info? 39 = some i ∧ i.zero = some z ∧ i.size = 34 ∧ i.bytes = 288 ∧ z.cells.size = 34 := by
  have h : (Try.prog.info? 39).map (fun i => (i.size, i.bytes, i.zero.map (fun z => z.cells.size))) = some (34, 288, some 34) := by kernel_rfl
  cases hq : Try.prog.info? 39 with
  | none => rw [hq] at h; cases h
  | some i =>
    rw [hq] at h
    simp only [Option.map_some, Option.some.injEq, Prod.mk.injEq] at h
    obtain ⟨e1, e2, e3⟩ := h
    cases hz : i.zero with
    | none => rw [hz] at e3; cases e3
    | some z => rw [hz] at e3; simp only [Option.map_some, Option.some.injEq] at e3; exact ⟨i, z, rfl, hz, e1, e2, e3⟩
theorem new34 (W : World) (p : Nr) (T : TypeId) : ∀ (j : Nat) (u : Value), (valsNr p)[j]? = some u → (W.alloc (.cells (valsNr p).toArray T)).cell? ((⟨W.heap.size, 0, none⟩ : Addr).add j) = some u := fun j u h => by
  have hadd : (⟨W.heap.size, 0, none⟩ : Addr).add j = ⟨W.heap.size, j, none⟩ := by unfold Addr.add; split <;> simp_all
  rw [hadd]
  exact (cellS (newS W _) j).trans (by simpa using h)
/-- a widget as it is built first -/
def nx (pa ww hh : Int) (ke : Bool) (ki : Int) : Nr := ⟨⟨pa, ww, hh, ke, ki, [], [], ⟨0, 0, 0, false, false, false, 0, 0, 0⟩, ⟨0, 0, 0, 0, 0, 0, 0, 0, 0⟩, ⟨0, 0, 0, 0, 0, 0, 0, 0, 0⟩⟩, none, 0, none, 0⟩
theorem run_bsN (p : Nr) (w : World) : (Instr.buildSlice 23 1 #[(0, .agg (valsNr p).toArray)]).run Try.prog w = .ok (.slice (some ⟨w.heap.size, 0, none⟩) 1 1) (w.alloc (.cells (valsNr p).toArray 39)) := by kernel_rfl
theorem run_bN (pa ww hh : Int) (ke : Bool) (ki : Int) (w : World) : (Instr.build 39 #[(0, .int .i64 pa), (1, .int .i64 ww), (2, .int .i64 hh), (3, .bool ke), (4, .int .i64 ki)]).run Try.prog w = .ok (.agg (valsNr (nx pa ww hh ke ki)).toArray) w := by kernel_rfl
/-- lines in memory of their own, or none -/
def LnK (W : World) (A : Option Addr) (L : List Ln) : Prop := L = [] ∨ ∃ (g : Nat) (cs : Array Value), A = some ⟨g, 0, none⟩ ∧ W.heap[g]? = some (.cells cs 92 (0, 0)) ∧ ∀ (i : Nat) (x : Ln), L[i]? = some x → InS cs (i * 2) (valsLn x)
theorem LnK.v {W : World} {A : Option Addr} {L : List Ln} (h : LnK W A L) : LnV W A L := by
  rcases h with rfl | ⟨g, cs, rfl, hh, hc⟩
  · exact LnV.nil _ _
  · exact LnV.inG hh hc
theorem LnK.own {W : World} {base n : Nat} {v : Value} {L : List Ln} (h : W.ownsRow base 92 2 v n (lnvals L)) (hn : n = L.length) : ∃ A c, v = .slice A L.length c ∧ L.length ≤ c ∧ LnK W A L := by
  subst hn
  rcases ln_inG h rfl with ⟨rfl, rfl⟩ | ⟨g, cap, cs, rfl, hg, hc, hh, hs, hin⟩
  · exact ⟨none, 0, rfl, Nat.le_refl _, .inl rfl⟩
  · exact ⟨_, cap, rfl, hc, .inr ⟨g, cs, rfl, hh, hin⟩⟩
/-- blocks of lines stay as they are -/
def KpL (W W' : World) : Prop := ∀ (g : Nat) (cs : Array Value), W.heap[g]? = some (.cells cs 92 (0, 0)) → W'.heap[g]? = W.heap[g]?
theorem KpL.refl (W : World) : KpL W W := fun _ _ _ => rfl
theorem KpL.trans {A B C : World} (h : KpL A B) (k : KpL B C) : KpL A C := fun g cs e => (k g cs ((h g cs e).trans e)).trans (h g cs e)
theorem LnK.kp {W W' : World} {A : Option Addr} {L : List Ln} (h : LnK W A L) (hk : KpL W W') : LnK W' A L := h.imp id fun ⟨g, cs, e, hh, hc⟩ => ⟨g, cs, e, (hk g cs hh).trans hh, hc⟩
theorem KpL.chg {W W' : World} {b : Nat} {o : Obj} (hc : Chg [b] W W') (hb : W.heap[b]? = some o) (ho : ∀ cs, o ≠ .cells cs 92 (0, 0)) : KpL W W' := fun g cs e => hc.block g (ltS e) (by
  simp only [List.mem_singleton]; rintro rfl; rw [hb] at e; exact ho cs (Option.some.inj e))
theorem KpL.below {W W' : World} (hb : Below W.heap.size W W') : KpL W W' := fun g cs e => hb.block g (ltS e)
theorem KpL.grown {W W' : World} {ob : Option Nat} (hg : W.grownBy W' ob) (ho : ∀ g cs, W.heap[g]? = some (.cells cs 92 (0, 0)) → some g ≠ ob) : KpL W W' := fun g cs e => hg.block g (ltS e) (ho g cs e)
/-- what holds of a widget's lines -/
structure NL (W : World) (p : Nr) : Prop where
  c : LnK W p.ca p.n.cs
  r : LnK W p.ra p.n.rs
  cl : p.n.cs.length ≤ p.cc
  rl : p.n.rs.length ≤ p.rc
  c5 : p.n.cs.length ≤ 5
  r5 : p.n.rs.length ≤ 5
theorem NL.kp {W W' : World} {p : Nr} (h : NL W p) (hk : KpL W W') : NL W' p := ⟨h.c.kp hk, h.r.kp hk, h.cl, h.rl, h.c5, h.r5⟩
theorem NL.rd {W : World} {p : Nr} (h : NL W p) : RdN W p := ⟨h.c.v, h.cl, h.r.v, h.rl⟩
def kiL (p : Nr) : Prop := p.n.ki = 1 → 1 ≤ p.n.cs.length ∧ 1 ≤ p.n.rs.length
/-- the tree that is made, in the variable bt; a its world of before -/
structure TrS (a : World) (lo br bt rb : Nat) (R : List Nr) (v : Value) (W : World) : Prop where
  res : W.heap[br]? = some (.cells #[.slice none 0 0] 25 (0, 0))
  box : W.heap[bt]? = some (.cells #[v] 25 (0, 0))
  own : W.ownsRow lo 39 34 v R.length (nrvals R)
  lns : ∀ p ∈ R, NL W p ∧ kiL p
  chg : Chg [rb] a W
theorem TrS.call {a : World} {lo br bt rb B n c m : Nat} {A : Option Addr} {R : List Nr} {v : Value} {W W' : World} (h : TrS a lo br bt rb R v W) (hr : Rd B rb A n c m W) (hc : Chg [rb] W W') (h1 : rb < lo) (h2 : bt ≠ rb) (h3 : br ≠ rb) : TrS a lo br bt rb R v W' := by
  obtain ⟨p, hp, hb⟩ := hr.box
  have hk : KpL W W' := KpL.chg hc hb (fun cs e => by cases e)
  exact ⟨(hc.block br (ltS h.res) (by simpa using h3)).trans h.res, (hc.block bt (ltS h.box) (by simpa using h2)).trans h.box, own_chgN h.own hc h1, fun p hp => ⟨(h.lns p hp).1.kp hk, (h.lns p hp).2⟩, h.chg.trans hc⟩
theorem TrS.alloc {a : World} {lo br bt rb : Nat} {R : List Nr} {v : Value} {W : World} (h : TrS a lo br bt rb R v W) (o : Obj) : TrS a lo br bt rb R v (W.alloc o) :=
  ⟨(Below.heap_alloc _ _ _ (ltS h.res)).trans h.res, (Below.heap_alloc _ _ _ (ltS h.box)).trans h.box, h.own.alloc _, fun p hp => ⟨(h.lns p hp).1.kp (KpL.below (balloc (Below.refl _ _))), (h.lns p hp).2⟩, h.chg.alloc o⟩
theorem TrS.drew {a : World} {lo br bt rb : Nat} {R : List Nr} {v : Value} {W : World} (h : TrS a lo br bt rb R v W) : TrS a lo br bt rb R v W.drew :=
  ⟨h.res, h.box, h.own.kept (row := none) ⟨rfl, rfl, rfl, Nat.le_refl _, fun _ _ _ => rfl⟩ (by cases hv : v.ownBlock with | none => exact .inl rfl | some g => exact .inr (fun e => by cases e)), fun p hp => ⟨(h.lns p hp).1.kp (KpL.below (Below.refl _ _).drew), (h.lns p hp).2⟩, h.chg.drew⟩
/-- the widget that is made, in the variable bx -/
def XB (bx : Nat) (p : Nr) (W : World) : Prop := W.heap[bx]? = some (.cells (valsNr p).toArray 39 (0, 0))
theorem XB.call {bx rb : Nat} {p : Nr} {W W' : World} (h : XB bx p W) (hc : Chg [rb] W W') (hn : bx ≠ rb) : XB bx p W' := (hc.block bx (ltS h) (by simpa using hn)).trans h
theorem XB.alloc {bx : Nat} {p : Nr} {W : World} (h : XB bx p W) (o : Obj) : XB bx p (W.alloc o) := (Below.heap_alloc _ _ _ (ltS h)).trans h
theorem XB.cell {bx : Nat} {p : Nr} {W : World} (h : XB bx p W) (i : Nat) : W.cell? ⟨bx, i, none⟩ = (valsNr p).toArray[i]? := cellS h i
theorem XB.frz {bx : Nat} {p : Nr} {W : World} (h : XB bx p W) (i : Nat) : W.frozen? ⟨bx, i, none⟩ = false := frozenS h i
theorem chg_sets {b : Nat} {W : World} (vs : List Value) (o : Nat) : Chg [b] W (W.setCells b o vs) := Chg.of_grown (Chg.refl _ _) (grown_setCells vs o W (greflS W b)) (.inl (by simp))
theorem TrS.sets {a : World} {lo br bt rb bx : Nat} {R : List Nr} {v : Value} {W : World} {cs : Array Value} (h : TrS a lo br bt rb R v W) (hx : W.heap[bx]? = some (.cells cs 39 (0, 0))) (hbt : bt ≠ bx) (hbr : br ≠ bx) (ha : a.heap.size ≤ bx) (hv : ∀ k, v.ownBlock = some k → k ≠ bx) (o : Nat) (vs : List Value) : TrS a lo br bt rb R v (W.setCells bx o vs) :=
  ⟨(heap_setCells_ne hbr vs o W).trans h.res, (heap_setCells_ne hbt vs o W).trans h.box, h.own.kept (grown_setCells vs o W (greflS W bx)) (by
    cases hv' : v.ownBlock with
    | none => exact .inl rfl
    | some g => exact .inr (fun e => hv g hv' (Option.some.inj e))),
   fun p hp => ⟨(h.lns p hp).1.kp (KpL.grown (grown_setCells vs o W (greflS W bx)) (fun g cs' e e' => by cases e'; rw [hx] at e; have := Option.some.inj e; simp at this)), (h.lns p hp).2⟩,
   Chg.of_grown h.chg (grown_setCells vs o W (greflS W bx)) (.inr ha)⟩
theorem NL.sets {bx : Nat} {p : Nr} {W : World} {cs : Array Value} (h : NL W p) (hx : W.heap[bx]? = some (.cells cs 39 (0, 0))) (o : Nat) (vs : List Value) : NL (W.setCells bx o vs) p :=
  h.kp (KpL.grown (grown_setCells vs o W (greflS W bx)) (fun g cs' e e' => by cases e'; rw [hx] at e; have := Option.some.inj e; simp at this))
theorem Rd.sets {B rb bx n c m : Nat} {A : Option Addr} {W : World} (h : Rd B rb A n c m W) (hB : B ≤ bx) (hn : bx ≠ rb) (o : Nat) (vs : List Value) : Rd B rb A n c m (W.setCells bx o vs) := h.keep (chg_sets vs o) (by simp; exact ⟨hB, hn⟩)
theorem XB.sets {bx : Nat} {p q : Nr} {W : World} (h : XB bx p W) (o : Nat) (vs : List Value) (e : wrAt (valsNr p).toArray o vs = (valsNr q).toArray) : XB bx q (W.setCells bx o vs) := (heap_setCells vs o W _ h).trans (by rw [e])
theorem NL.call {B rb n c m : Nat} {A : Option Addr} {p : Nr} {W W' : World} (h : NL W p) (hr : Rd B rb A n c m W) (hc : Chg [rb] W W') : NL W' p := by
  obtain ⟨q, _, hb⟩ := hr.box
  exact h.kp (KpL.chg hc hb (fun cs e => by cases e))
/-- one more widget -/
theorem TrS.add {a : World} {lo br bt rb : Nat} {R : List Nr} {p : Nr} {v v' : Value} {W w5 : World} {o : Obj} (h : TrS a lo br bt rb R v W) (hn : NL W p) (hk : kiL p) (hlo : a.heap.size ≤ lo) (hg : (W.alloc o).grownBy w5 v.ownBlock) (ho : w5.ownsRow lo 39 34 v' (R.length + 1) (nrvals R ++ valsNr p)) :
    KpL W w5 ∧ w5.heap[br]? = some (.cells #[.slice none 0 0] 25 (0, 0)) ∧ w5.heap[bt]? = some (.cells #[v] 25 (0, 0)) ∧ w5.ownsRow lo 39 34 v' (R ++ [p]).length (nrvals (R ++ [p])) ∧ (∀ q ∈ R ++ [p], NL w5 q ∧ kiL q) ∧ Chg [rb] a w5 := by
  have hbk : ∀ (g : Nat) (ob : Obj), W.heap[g]? = some ob → (∀ cs, ob ≠ .cells cs 39 (0, 0)) → w5.heap[g]? = W.heap[g]? := fun g ob hb hne => by
    refine (hg.block g (by have := ltS hb; simp; omega) (fun e => ?_)).trans (Below.heap_alloc _ _ _ (ltS hb))
    rcases h.own.2 with ⟨rfl, _⟩ | ⟨g', cap, cur, rfl, _, hg', _⟩
    · simp [Value.ownBlock] at e
    · have : g = g' := by simpa [Value.ownBlock] using e
      subst this
      rw [hb] at hg'
      exact hne _ (Option.some.inj hg')
  have hkp : KpL W w5 := fun g cs e => hbk g _ e (fun cs' e' => by simp at e')
  refine ⟨hkp, (hbk br _ h.res (fun cs' e' => by simp at e')).trans h.res, (hbk bt _ h.box (fun cs' e' => by simp at e')).trans h.box, by rw [nrvals_snoc] at ho; simpa using ho, fun q hq => ?_, chg_grownN h.chg hg h.own.lt hlo⟩
  rcases List.mem_append.1 hq with hq | hq
  · exact ⟨(h.lns q hq).1.kp hkp, (h.lns q hq).2⟩
  · rw [List.mem_singleton.1 hq]; exact ⟨hn.kp hkp, hk⟩
/-- a store into a variable that holds a tree -/
theorem own_tree {W : World} {lo n b : Nat} {v : Value} {xs : List Value} {cs : Array Value} (h : W.ownsRow lo 39 34 v n xs) (hb : W.heap[b]? = some (.cells cs 25 (0, 0))) (u : Value) : (W.setCell ⟨b, 0, none⟩ u).ownsRow lo 39 34 v n xs :=
  h.kept (row := some b) (gsetS (greflS W b) 0 u) (by
    rcases h.2 with ⟨rfl, _⟩ | ⟨g', cap, cur, rfl, _, hg', _⟩
    · exact .inl rfl
    · refine .inr (fun e => ?_)
      have : g' = b := by simpa [Value.ownBlock] using e
      subst this
      rw [hb] at hg'
      have := Option.some.inj hg'
      simp at this)
theorem kp_tree {W : World} {b : Nat} {cs : Array Value} (hb : W.heap[b]? = some (.cells cs 25 (0, 0))) (u : Value) : KpL W (W.setCell ⟨b, 0, none⟩ u) :=
  KpL.grown (gsetS (greflS W b) 0 u) (fun g cs' e e' => by cases e'; rw [hb] at e; have := Option.some.inj e; simp at this)
/-- the cells of the widgets -/
theorem own_nr {w : World} {base n : Nat} {v : Value} {R : List Nr} (h : w.ownsRow base 39 34 v n (nrvals R)) (hn : n = R.length) : (v = .slice none 0 0 ∧ R = []) ∨ ∃ (g cap : Nat) (cs : Array Value), v = .slice (some ⟨g, 0, none⟩) n cap ∧ base ≤ g ∧ n ≤ cap ∧ w.heap[g]? = some (.cells cs 39 (0, 0)) ∧ cs.size = cap * 34 ∧ ∀ (i : Nat) (r : Nr), R[i]? = some r → InS cs (i * 34) (valsNr r) := by
  rcases h.2 with ⟨rfl, h0⟩ | ⟨g, cap, cur, rfl, hb, hg, hc, _, hs, ht⟩
  · exact .inl ⟨rfl, List.length_eq_zero_iff.1 (by omega)⟩
  · refine .inr ⟨g, cap, cur, rfl, hb, hc, hg, hs, fun i r hr j u hj => ?_⟩
    have hi : i < R.length := (List.getElem?_eq_some_iff.1 hr).1
    have hj34 : j < 34 := by have := (List.getElem?_eq_some_iff.1 hj).1; rwa [valsNr_len] at this
    have e := (nrvals_get hr j hj34).trans hj
    rw [← ht, List.getElem?_take, if_pos (by omega)] at e
    simpa using e
theorem own_slN {w : World} {base n : Nat} {v : Value} {xs : List Value} {e : TypeId} {size : Nat} (h : w.ownsRow base e size v n xs) : ∃ A c, v = .slice A n c := by
  rcases h.2 with ⟨rfl, h0⟩ | ⟨g, cap, cur, rfl, _⟩
  · exact ⟨none, 0, by rw [h0]⟩
  · exact ⟨_, _, rfl⟩
end Go.Proofs.Ytgdkionmeacalab
end
