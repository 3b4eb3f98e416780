import Derived.Test.YtjdjahckdgbkbacQ11
import Derived.Deep.Cut
section
namespace Go.Proofs.Ytjdjahckdgbkbac
open Go.RowKit
set_option linter.unusedVariables false
set_option maxHeartbeats 1000000
attribute [local go_sem] growUpon_value growUpon_skip growUpon_enter
theorem wp_genGG {P : Program} {c : Code} {Q : Exit → Act → World → Prop} {a : Act} {W : World} (F : World → Prop) (hF : F W) (h : ∀ W0, F W0 → c.wp P Q a W0) : c.wp P Q a W := h W hF
theorem bp_genG {P : Program} {f : Func} {R : Ending → World → Prop} {e : Exit} {a : Act} {W : World} (F : World → Prop) (hF : F W) (h : ∀ W0, F W0 → bodyPost P f R e a W0) : bodyPost P f R e a W := h W hF
set_option maxRecDepth 100000 in
theorem szGrid_yes (A1 : Option Addr) (c1 n1 : Nat) (A2 : Option Addr) (c2 n2 : Nat) (A3 : Option Addr) (c3 n3 : Nat) (w : World) (h : (n1 : Int) + n2 + n3 ≤ 1048576) :
    Calls Try.prog 18 #[.agg #[.slice A1 n1 c1, .slice A2 n2 c2, .slice A3 n3 c3], .int .i64 1048576] w fun e w' => e = .returned (.int .i64 (1048576 - n1 - n2 - n3)) ∧ Below w.heap.size w w' := by
  have d1 : decide ((1048576 : Int) - (n1 : Int) < 0) = false := by simp; omega
  have d2 : decide ((1048576 : Int) - (n1 : Int) - (n2 : Int) < 0) = false := by simp; omega
  have d3 : decide ((1048576 : Int) - (n1 : Int) - (n2 : Int) - (n3 : Int) < 0) = false := by simp; omega
  go_enter Try.func18, Try.ntmps18
  go_wp2_with fail
  with_reducible refine (szLnS_yes A1 c1 n1 1048576 _ (by omega) (by omega)).mono ?_
  rintro e w1 ⟨rfl, rfl⟩
  go_wp2_with fail
  with_reducible refine (szLnS_yes A2 c2 n2 _ _ (by omega) (by omega)).mono ?_
  rintro e w1 ⟨rfl, rfl⟩
  go_wp2_with fail
  with_reducible refine (szCeS_yes A3 c3 n3 _ _ (by omega) (by omega)).mono ?_
  rintro e w1 ⟨rfl, rfl⟩
  go_wp2
  go_ret
  exact ⟨rfl, balloc (Below.refl _ _)⟩
set_option maxRecDepth 100000 in
theorem szGrid_no (A1 : Option Addr) (c1 n1 : Nat) (A2 : Option Addr) (c2 n2 : Nat) (A3 : Option Addr) (c3 n3 : Nat) (w : World) (h : ¬ (n1 : Int) + n2 + n3 ≤ 1048576) (m1 : n1 ≤ maxLen) (m2 : n2 ≤ maxLen) (m3 : n3 ≤ maxLen) :
    Calls Try.prog 18 #[.agg #[.slice A1 n1 c1, .slice A2 n2 c2, .slice A3 n3 c3], .int .i64 1048576] w fun e w' => e = .returned (.int .i64 (-1)) ∧ Below w.heap.size w w' := by
  by_cases g1 : (n1 : Int) ≤ 1048576
  · have d1 : decide ((1048576 : Int) - (n1 : Int) < 0) = false := by simp; omega
    by_cases g2 : (n2 : Int) ≤ 1048576 - (n1 : Int)
    · have d2 : decide ((1048576 : Int) - (n1 : Int) - (n2 : Int) < 0) = false := by simp; omega
      go_enter Try.func18, Try.ntmps18
      go_wp2_with fail
      with_reducible refine (szLnS_yes A1 c1 n1 1048576 _ (by omega) (by omega)).mono ?_
      rintro e w1 ⟨rfl, rfl⟩
      go_wp2_with fail
      with_reducible refine (szLnS_yes A2 c2 n2 _ _ (by omega) (by omega)).mono ?_
      rintro e w1 ⟨rfl, rfl⟩
      go_wp2_with fail
      with_reducible refine (szCeS_no A3 c3 n3 _ _ (by omega) (by omega) (by omega) m3).mono ?_
      rintro e w1 ⟨rfl, rfl⟩
      go_wp2
      go_ret
      exact ⟨rfl, balloc (Below.refl _ _)⟩
    · go_enter Try.func18, Try.ntmps18
      go_wp2_with fail
      with_reducible refine (szLnS_yes A1 c1 n1 1048576 _ (by omega) (by omega)).mono ?_
      rintro e w1 ⟨rfl, rfl⟩
      go_wp2_with fail
      with_reducible refine (szLnS_no A2 c2 n2 _ _ (by omega) (by omega) (by omega) m2).mono ?_
      rintro e w1 ⟨rfl, rfl⟩
      go_wp2
      go_ret
      exact ⟨rfl, balloc (Below.refl _ _)⟩
  · go_enter Try.func18, Try.ntmps18
    go_wp2_with fail
    with_reducible refine (szLnS_no A1 c1 n1 1048576 _ (by omega) (by omega) (by omega) m1).mono ?_
    rintro e w1 ⟨rfl, rfl⟩
    go_wp2
    go_ret
    exact ⟨rfl, balloc (Below.refl _ _)⟩
/-- a grid that was copied, in blocks of its own -/
def GB (lo : Nat) (w : World) (v : Value) (L1 L2 : List Ln) (L3 : List Ce) : Prop :=
  ∃ g1 g2 g3 : Nat, v = .agg #[.slice (some ⟨g1, 0, none⟩) L1.length L1.length, .slice (some ⟨g2, 0, none⟩) L2.length L2.length, .slice (some ⟨g3, 0, none⟩) L3.length L3.length] ∧ lo ≤ g1 ∧ g1 < g2 ∧ g2 < g3 ∧ LnB w g1 L1 ∧ LnB w g2 L2 ∧ CeB w g3 L3
theorem GB.any {lo : Nat} {w : World} {v : Value} {L1 L2 : List Ln} {L3 : List Ce} (h : GB lo w v L1 L2 L3) : GB 0 w v L1 L2 L3 := by
  obtain ⟨g1, g2, g3, e, a, b, c, k1, k2, k3⟩ := h
  exact ⟨g1, g2, g3, e, by omega, b, c, k1, k2, k3⟩
theorem GB.keep {lo : Nat} {w w' : World} {v : Value} {L1 L2 : List Ln} {L3 : List Ce} (h : GB lo w v L1 L2 L3) (hb : Below w.heap.size w w') : GB lo w' v L1 L2 L3 := by
  obtain ⟨g1, g2, g3, e, a, b, c, k1, k2, k3⟩ := h
  exact ⟨g1, g2, g3, e, a, b, c, k1.keep hb, k2.keep hb, k3.keep hb⟩
set_option maxRecDepth 100000 in
theorem toGrid_v (A1 : Option Addr) (c1 : Nat) (L1 : List Ln) (A2 : Option Addr) (c2 : Nat) (L2 : List Ln) (A3 : Option Addr) (c3 : Nat) (L3 : List Ce) (w : World) (h1 : LnV w A1 L1) (h2 : LnV w A2 L2) (h3 : CeV w A3 L3) (k1 : L1.length ≤ 1048576) (k2 : L2.length ≤ 1048576) (k3 : L3.length ≤ 1048576) :
    Calls Try.prog 20 #[.agg #[.slice A1 L1.length c1, .slice A2 L2.length c2, .slice A3 L3.length c3]] w fun e w' => (∃ v, e = .returned v ∧ GB w.heap.size w' v L1 L2 L3) ∧ Below w.heap.size w w' := by
  have hB0 : Below w.heap.size w (((w.alloc (.cells #[.slice A1 L1.length c1, .slice A2 L2.length c2, .slice A3 L3.length c3] 39 (0, 0))).alloc (.cells #[.slice none 0 0, .slice none 0 0, .slice none 0 0] 45 (0, 0))).alloc (.cells #[.slice none 0 0, .slice none 0 0, .slice none 0 0] 45 (0, 0))) := balloc (balloc (balloc (Below.refl _ _)))
  have hx0 : (((w.alloc (.cells #[.slice A1 L1.length c1, .slice A2 L2.length c2, .slice A3 L3.length c3] 39 (0, 0))).alloc (.cells #[.slice none 0 0, .slice none 0 0, .slice none 0 0] 45 (0, 0))).alloc (.cells #[.slice none 0 0, .slice none 0 0, .slice none 0 0] 45 (0, 0))).heap[w.heap.size]? = some (.cells #[.slice A1 L1.length c1, .slice A2 L2.length c2, .slice A3 L3.length c3] 39 (0, 0)) := (Below.heap_alloc _ (.cells #[.slice none 0 0, .slice none 0 0, .slice none 0 0] 45 (0, 0)) w.heap.size (by first | (simp; done) | (simp; omega))).trans ((Below.heap_alloc _ (.cells #[.slice none 0 0, .slice none 0 0, .slice none 0 0] 45 (0, 0)) w.heap.size (by simp)).trans (newS w (.cells #[.slice A1 L1.length c1, .slice A2 L2.length c2, .slice A3 L3.length c3] 39 (0, 0))))
  have hy0 : (((w.alloc (.cells #[.slice A1 L1.length c1, .slice A2 L2.length c2, .slice A3 L3.length c3] 39 (0, 0))).alloc (.cells #[.slice none 0 0, .slice none 0 0, .slice none 0 0] 45 (0, 0))).alloc (.cells #[.slice none 0 0, .slice none 0 0, .slice none 0 0] 45 (0, 0))).heap[w.heap.size + 1]? = some (.cells #[.slice none 0 0, .slice none 0 0, .slice none 0 0] 45 (0, 0)) := (Below.heap_alloc _ (.cells #[.slice none 0 0, .slice none 0 0, .slice none 0 0] 45 (0, 0)) (w.heap.size + 1) (by simp)).trans (by have := newS (w.alloc (.cells #[.slice A1 L1.length c1, .slice A2 L2.length c2, .slice A3 L3.length c3] 39 (0, 0))) (.cells #[.slice none 0 0, .slice none 0 0, .slice none 0 0] 45 (0, 0)); rwa [World.size_alloc] at this)
  have hz0 : (((w.alloc (.cells #[.slice A1 L1.length c1, .slice A2 L2.length c2, .slice A3 L3.length c3] 39 (0, 0))).alloc (.cells #[.slice none 0 0, .slice none 0 0, .slice none 0 0] 45 (0, 0))).alloc (.cells #[.slice none 0 0, .slice none 0 0, .slice none 0 0] 45 (0, 0))).heap[w.heap.size + 1 + 1]? = some (.cells #[.slice none 0 0, .slice none 0 0, .slice none 0 0] 45 (0, 0)) := by have := newS ((w.alloc (.cells #[.slice A1 L1.length c1, .slice A2 L2.length c2, .slice A3 L3.length c3] 39 (0, 0))).alloc (.cells #[.slice none 0 0, .slice none 0 0, .slice none 0 0] 45 (0, 0))) (.cells #[.slice none 0 0, .slice none 0 0, .slice none 0 0] 45 (0, 0)); rwa [World.size_alloc, World.size_alloc] at this
  have HX0 := Lib.hid hx0
  have HY0 := Lib.hid hy0
  have HZ0 := Lib.hid hz0
  have HB0 := Lib.hid hB0
  have HV0 := Lib.hid (h1.keep hB0)
  have HV1 := Lib.hid (h2.keep hB0)
  have HV2 := Lib.hid (h3.keep hB0)
  clear hB0 hx0 hy0 hz0
  go_enter Try.func20, Try.ntmps20
  go_upto_region 2 with (fail)
  refine wp_genGG (fun W => W.heap[w.heap.size]? = some (.cells #[.slice A1 L1.length c1, .slice A2 L2.length c2, .slice A3 L3.length c3] 39 (0, 0)) ∧ W.heap[w.heap.size + 1]? = some (.cells #[.slice none 0 0, .slice none 0 0, .slice none 0 0] 45 (0, 0)) ∧ W.heap[w.heap.size + 1 + 1]? = some (.cells #[.slice none 0 0, .slice none 0 0, .slice none 0 0] 45 (0, 0)) ∧ Below w.heap.size w W) ⟨HX0.out, HY0.out, HZ0.out, HB0.out⟩ (fun w0 h0 => ?_)
  clear HX0 HY0 HZ0 HB0 HV0 HV1 HV2
  obtain ⟨hx, hy, hz, hb⟩ := h0
  have HX := Lib.hid hx
  have HY := Lib.hid hy
  have HZ := Lib.hid hz
  have HB := Lib.hid hb
  have H1 := Lib.hid h1
  have H2 := Lib.hid h2
  have H3 := Lib.hid h3
  clear hx hy hz hb h1 h2 h3
  have d := cellS HX.out 0
  have hlz0 := ltS HZ.out
  go_wp2_with fail
  with_reducible refine (toLnS_any A1 c1 L1 _ (H1.out.keep HB.out) k1).mono ?_
  rintro e w1 ⟨rfl, hk, hb⟩
  clear d
  replace HX := Lib.hid ((hb.block _ (Array.getElem?_eq_some_iff.1 HX.out).1).trans HX.out)
  replace HY := Lib.hid ((hb.block _ (Array.getElem?_eq_some_iff.1 HY.out).1).trans HY.out)
  replace HZ := Lib.hid ((hb.block _ (Array.getElem?_eq_some_iff.1 HZ.out).1).trans HZ.out)
  replace HB := Lib.hid (bkeep2 HB.out hb)
  clear hb
  have HK0 := Lib.hid hk
  clear hk
  have z := cellS HZ.out 0
  have zf := frozenS HZ.out 0
  have ne : w0.heap.size ≠ w.heap.size + 1 + 1 := by omega
  have p := putS (i := 0) HZ.out (.slice (some ⟨w0.heap.size, 0, none⟩) L1.length L1.length)
  simp only [List.setIfInBounds_toArray, List.set_cons_succ, List.set_cons_zero] at p
  have HP := Lib.hid p
  clear p
  go_upto_region 3 with (fail)
  refine wp_genGG (fun W => W.heap[w.heap.size]? = some (.cells #[.slice A1 L1.length c1, .slice A2 L2.length c2, .slice A3 L3.length c3] 39 (0, 0)) ∧ W.heap[w.heap.size + 1]? = some (.cells #[.slice none 0 0, .slice none 0 0, .slice none 0 0] 45 (0, 0)) ∧ W.heap[w.heap.size + 1 + 1]? = some (.cells #[.slice (some ⟨w0.heap.size, 0, none⟩) L1.length L1.length, .slice none 0 0, .slice none 0 0] 45 (0, 0)) ∧ Below w.heap.size w W ∧ LnB W w0.heap.size L1) ⟨(Below.heap_setCell _ _ _ w.heap.size (by simp; omega)).trans HX.out, (Below.heap_setCell _ _ _ (w.heap.size + 1) (by simp)).trans HY.out, HP.out, HB.out.setCell (p := ⟨w.heap.size + 1 + 1, 0, none⟩) (by simp; omega) _, HK0.out.but (gsetS (greflS _ (w.heap.size + 1 + 1)) 0 _) ne⟩ (fun w2 hh => ?_)
  have ne_0 := Lib.hid ne
  clear HX HY HZ HB HP z zf ne HK0 
  obtain ⟨hx, hy, hz, hb, hk0⟩ := hh
  have HX := Lib.hid hx
  have HY := Lib.hid hy
  have HZ := Lib.hid hz
  have HB := Lib.hid hb
  have HK0 := Lib.hid hk0
  clear hx hy hz hb hk0
  have d := cellS HX.out 1
  have hlz1 := ltS HZ.out
  have hlk1_0 := HK0.out.lt
  go_wp2_with fail
  with_reducible refine (toLnS_any A2 c2 L2 _ (H2.out.keep HB.out) k2).mono ?_
  rintro e w3 ⟨rfl, hk, hb⟩
  clear d
  replace HX := Lib.hid ((hb.block _ (Array.getElem?_eq_some_iff.1 HX.out).1).trans HX.out)
  replace HY := Lib.hid ((hb.block _ (Array.getElem?_eq_some_iff.1 HY.out).1).trans HY.out)
  replace HZ := Lib.hid ((hb.block _ (Array.getElem?_eq_some_iff.1 HZ.out).1).trans HZ.out)
  replace HK0 := Lib.hid (HK0.out.keep hb)
  replace HB := Lib.hid (bkeep2 HB.out hb)
  clear hb
  have HK1 := Lib.hid hk
  clear hk
  have z := cellS HZ.out 1
  have zf := frozenS HZ.out 1
  have ne : w2.heap.size ≠ w.heap.size + 1 + 1 := by omega
  have ne0 : w0.heap.size ≠ w.heap.size + 1 + 1 := ne_0.out
  have p := putS (i := 1) HZ.out (.slice (some ⟨w2.heap.size, 0, none⟩) L2.length L2.length)
  simp only [List.setIfInBounds_toArray, List.set_cons_succ, List.set_cons_zero] at p
  have HP := Lib.hid p
  clear p
  go_upto_region 4 with (fail)
  refine wp_genGG (fun W => W.heap[w.heap.size]? = some (.cells #[.slice A1 L1.length c1, .slice A2 L2.length c2, .slice A3 L3.length c3] 39 (0, 0)) ∧ W.heap[w.heap.size + 1]? = some (.cells #[.slice none 0 0, .slice none 0 0, .slice none 0 0] 45 (0, 0)) ∧ W.heap[w.heap.size + 1 + 1]? = some (.cells #[.slice (some ⟨w0.heap.size, 0, none⟩) L1.length L1.length, .slice (some ⟨w2.heap.size, 0, none⟩) L2.length L2.length, .slice none 0 0] 45 (0, 0)) ∧ Below w.heap.size w W ∧ LnB W w0.heap.size L1 ∧ LnB W w2.heap.size L2) ⟨(Below.heap_setCell _ _ _ w.heap.size (by simp; omega)).trans HX.out, (Below.heap_setCell _ _ _ (w.heap.size + 1) (by simp)).trans HY.out, HP.out, HB.out.setCell (p := ⟨w.heap.size + 1 + 1, 1, none⟩) (by simp; omega) _, HK0.out.but (gsetS (greflS _ (w.heap.size + 1 + 1)) 1 _) ne0, HK1.out.but (gsetS (greflS _ (w.heap.size + 1 + 1)) 1 _) ne⟩ (fun w4 hh => ?_)
  have ne_1 := Lib.hid ne
  clear HX HY HZ HB HP z zf ne HK0 HK1 ne0
  obtain ⟨hx, hy, hz, hb, hk0, hk1⟩ := hh
  have HX := Lib.hid hx
  have HY := Lib.hid hy
  have HZ := Lib.hid hz
  have HB := Lib.hid hb
  have HK0 := Lib.hid hk0
  have HK1 := Lib.hid hk1
  clear hx hy hz hb hk0 hk1
  have d := cellS HX.out 2
  have hlz2 := ltS HZ.out
  have hlk2_0 := HK0.out.lt
  have hlk2_1 := HK1.out.lt
  go_wp2_with fail
  with_reducible refine (toCeS_any A3 c3 L3 _ (H3.out.keep HB.out) k3).mono ?_
  rintro e w5 ⟨rfl, hk, hb⟩
  clear d
  replace HX := Lib.hid ((hb.block _ (Array.getElem?_eq_some_iff.1 HX.out).1).trans HX.out)
  replace HY := Lib.hid ((hb.block _ (Array.getElem?_eq_some_iff.1 HY.out).1).trans HY.out)
  replace HZ := Lib.hid ((hb.block _ (Array.getElem?_eq_some_iff.1 HZ.out).1).trans HZ.out)
  replace HK0 := Lib.hid (HK0.out.keep hb)
  replace HK1 := Lib.hid (HK1.out.keep hb)
  replace HB := Lib.hid (bkeep2 HB.out hb)
  clear hb
  have HK2 := Lib.hid hk
  clear hk
  have z := cellS HZ.out 2
  have zf := frozenS HZ.out 2
  have ne : w4.heap.size ≠ w.heap.size + 1 + 1 := by omega
  have ne0 : w0.heap.size ≠ w.heap.size + 1 + 1 := ne_0.out
  have ne1 : w2.heap.size ≠ w.heap.size + 1 + 1 := ne_1.out
  have p := putS (i := 2) HZ.out (.slice (some ⟨w4.heap.size, 0, none⟩) L3.length L3.length)
  simp only [List.setIfInBounds_toArray, List.set_cons_succ, List.set_cons_zero] at p
  have HP := Lib.hid p
  clear p
  go_upto_region 5 with (fail)
  refine wp_genGG (fun W => W.heap[w.heap.size]? = some (.cells #[.slice A1 L1.length c1, .slice A2 L2.length c2, .slice A3 L3.length c3] 39 (0, 0)) ∧ W.heap[w.heap.size + 1]? = some (.cells #[.slice none 0 0, .slice none 0 0, .slice none 0 0] 45 (0, 0)) ∧ W.heap[w.heap.size + 1 + 1]? = some (.cells #[.slice (some ⟨w0.heap.size, 0, none⟩) L1.length L1.length, .slice (some ⟨w2.heap.size, 0, none⟩) L2.length L2.length, .slice (some ⟨w4.heap.size, 0, none⟩) L3.length L3.length] 45 (0, 0)) ∧ Below w.heap.size w W ∧ LnB W w0.heap.size L1 ∧ LnB W w2.heap.size L2 ∧ CeB W w4.heap.size L3) ⟨(Below.heap_setCell _ _ _ w.heap.size (by simp; omega)).trans HX.out, (Below.heap_setCell _ _ _ (w.heap.size + 1) (by simp)).trans HY.out, HP.out, HB.out.setCell (p := ⟨w.heap.size + 1 + 1, 2, none⟩) (by simp; omega) _, HK0.out.but (gsetS (greflS _ (w.heap.size + 1 + 1)) 2 _) ne0, HK1.out.but (gsetS (greflS _ (w.heap.size + 1 + 1)) 2 _) ne1, HK2.out.but (gsetS (greflS _ (w.heap.size + 1 + 1)) 2 _) ne⟩ (fun w6 hh => ?_)
  have ne_2 := Lib.hid ne
  clear HX HY HZ HB HP z zf ne HK0 HK1 HK2 ne0 ne1
  obtain ⟨hx, hy, hz, hb, hk0, hk1, hk2⟩ := hh
  have HX := Lib.hid hx
  have HY := Lib.hid hy
  have HZ := Lib.hid hz
  have HB := Lib.hid hb
  have HK0 := Lib.hid hk0
  have HK1 := Lib.hid hk1
  have HK2 := Lib.hid hk2
  clear hx hy hz hb hk0 hk1 hk2
  have hl01 := hlk1_0
  have hl12 := hlk2_1
  have hl0 := hlz0
  have z0 := cellS HZ.out 0
  have z1 := cellS HZ.out 1
  have z2 := cellS HZ.out 2
  have y0 := cellS HY.out 0
  have y1 := cellS HY.out 1
  have y2 := cellS HY.out 2
  have f0 := frozenS HY.out 0
  have f1 := frozenS HY.out 1
  have f2 := frozenS HY.out 2
  have lz := ltS HZ.out
  have ly := ltS HY.out
  have p := putS (i := 2) (putS (i := 1) (putS (i := 0) HY.out (.slice (some ⟨w0.heap.size, 0, none⟩) L1.length L1.length)) (.slice (some ⟨w2.heap.size, 0, none⟩) L2.length L2.length)) (.slice (some ⟨w4.heap.size, 0, none⟩) L3.length L3.length)
  simp only [List.setIfInBounds_toArray, List.set_cons_succ, List.set_cons_zero] at p
  have HP := Lib.hid p
  clear p
  go_wp2
  refine bp_genG (fun W => W.heap[w.heap.size + 1]? = some (.cells #[.slice (some ⟨w0.heap.size, 0, none⟩) L1.length L1.length, .slice (some ⟨w2.heap.size, 0, none⟩) L2.length L2.length, .slice (some ⟨w4.heap.size, 0, none⟩) L3.length L3.length] 45 (0, 0)) ∧ Below w.heap.size w W ∧ LnB W w0.heap.size L1 ∧ LnB W w2.heap.size L2 ∧ CeB W w4.heap.size L3) ⟨HP.out, ((HB.out.setCell (p := ⟨w.heap.size + 1, 0, none⟩) (by simp) _).setCell (p := ⟨w.heap.size + 1, 1, none⟩) (by simp) _).setCell (p := ⟨w.heap.size + 1, 2, none⟩) (by simp) _, HK0.out.but (gsetS (gsetS (gsetS (greflS _ (w.heap.size + 1)) 0 _) 1 _) 2 _) (by omega), HK1.out.but (gsetS (gsetS (gsetS (greflS _ (w.heap.size + 1)) 0 _) 1 _) 2 _) (by omega), HK2.out.but (gsetS (gsetS (gsetS (greflS _ (w.heap.size + 1)) 0 _) 1 _) 2 _) (by omega)⟩ ?_
  clear HX HY HZ HB HP HK0 HK1 HK2 z0 z1 z2 y0 y1 y2 f0 f1 f2 lz ly
  rintro W ⟨hp, hb, hk0, hk1, hk2⟩
  have q0 := cellS hp 0
  have q1 := cellS hp 1
  have q2 := cellS hp 2
  exact bodyPost_ret (v := .agg #[.slice (some ⟨w0.heap.size, 0, none⟩) L1.length L1.length, .slice (some ⟨w2.heap.size, 0, none⟩) L2.length L2.length, .slice (some ⟨w4.heap.size, 0, none⟩) L3.length L3.length]) (by simp only [results, Try.results20]; go_simp) rfl ⟨⟨_, rfl, w0.heap.size, w2.heap.size, w4.heap.size, rfl, by omega, by omega, by omega, hk0, hk1, hk2⟩, hb⟩
set_option maxRecDepth 100000 in
theorem eqGrid_same (A1 : Option Addr) (c1 : Nat) (L1 : List Ln) (A2 : Option Addr) (c2 : Nat) (L2 : List Ln) (A3 : Option Addr) (c3 : Nat) (L3 : List Ce) (B1 : Option Addr) (e1 : Nat) (B2 : Option Addr) (e2 : Nat) (B3 : Option Addr) (e3 : Nat) (w : World) (h1 : LnV w A1 L1) (h2 : LnV w A2 L2) (h3 : CeV w A3 L3) (k1 : LnV w B1 L1) (k2 : LnV w B2 L2) (k3 : CeV w B3 L3) (m1 : L1.length ≤ 1048576) (m2 : L2.length ≤ 1048576) (m3 : L3.length ≤ 1048576) :
    Calls Try.prog 22 #[.agg #[.slice A1 L1.length c1, .slice A2 L2.length c2, .slice A3 L3.length c3], .agg #[.slice B1 L1.length e1, .slice B2 L2.length e2, .slice B3 L3.length e3]] w fun e w' => e = .returned (.bool true) ∧ Below w.heap.size w w' := by
  have hB0 : Below w.heap.size w ((w.alloc (.cells #[.slice A1 L1.length c1, .slice A2 L2.length c2, .slice A3 L3.length c3] 45 (0, 0))).alloc (.cells #[.slice B1 L1.length e1, .slice B2 L2.length e2, .slice B3 L3.length e3] 45 (0, 0))) := balloc (balloc (Below.refl _ _))
  have HX := Lib.hid ((Below.heap_alloc _ (.cells #[.slice B1 L1.length e1, .slice B2 L2.length e2, .slice B3 L3.length e3] 45 (0, 0)) w.heap.size (by simp)).trans (newS w (.cells #[.slice A1 L1.length c1, .slice A2 L2.length c2, .slice A3 L3.length c3] 45 (0, 0))))
  have hy := newS (w.alloc (.cells #[.slice A1 L1.length c1, .slice A2 L2.length c2, .slice A3 L3.length c3] 45 (0, 0))) (.cells #[.slice B1 L1.length e1, .slice B2 L2.length e2, .slice B3 L3.length e3] 45 (0, 0))
  rw [World.size_alloc] at hy
  have HY := Lib.hid hy
  have HV1 := Lib.hid (h1.keep hB0)
  have HV2 := Lib.hid (h2.keep hB0)
  have HV3 := Lib.hid (h3.keep hB0)
  have HK1 := Lib.hid (k1.keep hB0)
  have HK2 := Lib.hid (k2.keep hB0)
  have HK3 := Lib.hid (k3.keep hB0)
  have HB := Lib.hid hB0
  clear hB0 hy h1 h2 h3 k1 k2 k3
  go_enter Try.func22, Try.ntmps22
  go_wp2_with fail
  with_reducible refine (eqLnS_same A1 B1 c1 e1 L1 _ HV1.out HK1.out m1).mono ?_
  rintro e w1 ⟨rfl, hb⟩
  replace HX := Lib.hid ((hb.block _ (Array.getElem?_eq_some_iff.1 HX.out).1).trans HX.out)
  replace HY := Lib.hid ((hb.block _ (Array.getElem?_eq_some_iff.1 HY.out).1).trans HY.out)
  replace HV2 := Lib.hid (HV2.out.keep hb)
  replace HV3 := Lib.hid (HV3.out.keep hb)
  replace HK2 := Lib.hid (HK2.out.keep hb)
  replace HK3 := Lib.hid (HK3.out.keep hb)
  replace HB := Lib.hid (bkeep2 HB.out hb)
  clear hb
  have d0 := cellS HX.out 0
  have d1 := cellS HX.out 1
  have d2 := cellS HX.out 2
  have f0 := cellS HY.out 0
  have f1 := cellS HY.out 1
  have f2 := cellS HY.out 2
  go_wp2_with fail
  with_reducible refine (eqLnS_same A2 B2 c2 e2 L2 _ HV2.out HK2.out m2).mono ?_
  rintro e w2 ⟨rfl, hb⟩
  clear d0 d1 d2 f0 f1 f2
  replace HX := Lib.hid ((hb.block _ (Array.getElem?_eq_some_iff.1 HX.out).1).trans HX.out)
  replace HY := Lib.hid ((hb.block _ (Array.getElem?_eq_some_iff.1 HY.out).1).trans HY.out)
  replace HV3 := Lib.hid (HV3.out.keep hb)
  replace HK3 := Lib.hid (HK3.out.keep hb)
  replace HB := Lib.hid (bkeep2 HB.out hb)
  clear hb
  have d0 := cellS HX.out 0
  have d1 := cellS HX.out 1
  have d2 := cellS HX.out 2
  have f0 := cellS HY.out 0
  have f1 := cellS HY.out 1
  have f2 := cellS HY.out 2
  go_wp2_with fail
  with_reducible refine (eqCeS_same A3 B3 c3 e3 L3 _ HV3.out HK3.out m3).mono ?_
  rintro e w3 ⟨rfl, hb⟩
  clear d0 d1 d2 f0 f1 f2
  replace HB := Lib.hid (bkeep2 HB.out hb)
  clear hb
  go_wp2
  go_ret
  exact ⟨rfl, HB.out⟩
end Go.Proofs.Ytjdjahckdgbkbac
end
section
namespace Go.Proofs.Ytjdjahckdgbkbac
open Go.RowKit
set_option linter.unusedVariables false
set_option maxHeartbeats 1000000
attribute [local go_sem] growUpon_value growUpon_skip growUpon_enter
def spvalsN : List Sp → List Value
  | [] => []
  | r :: t => valsSp r ++ spvalsN t
theorem spvalsN_append (A B : List Sp) : spvalsN (A ++ B) = spvalsN A ++ spvalsN B := by
  induction A with
  | nil => rfl
  | cons r t ih => simp [spvalsN, ih]
theorem spvalsN_succ {M : List Sp} {k : Nat} {r : Sp} (h : M[k]? = some r) : spvalsN (M.take k) ++ valsSp r = spvalsN (M.take (k + 1)) := by
  rw [List.take_add_one, h, Option.toList, spvalsN_append]; simp [spvalsN]
theorem spvalsN_get : ∀ {M : List Sp} {i : Nat} {r : Sp}, M[i]? = some r → ∀ j, j < 3 → (spvalsN M)[i * 3 + j]? = (valsSp r)[j]?
  | [], i, r, h, _, _ => by simp at h
  | q :: t, 0, r, h, j, hj => by
    simp at h; subst h
    show (valsSp q ++ spvalsN t)[0 * 3 + j]? = _
    rw [List.getElem?_append_left (by simp [valsSp]; omega)]; simp
  | q :: t, i + 1, r, h, j, hj => by
    show (valsSp q ++ spvalsN t)[(i + 1) * 3 + j]? = _
    rw [List.getElem?_append_right (by simp [valsSp]; omega)]
    have := spvalsN_get (M := t) (i := i) (r := r) (by simpa using h) j hj
    rw [← this]; congr 1; simp [valsSp]; omega
/-- the value reads as the list -/
def SpR (w : World) (v : Value) (L : List Sp) : Prop := ∃ A c, v = .slice A L.length c ∧ SpV w A L
theorem SpR.keep {w w' : World} {v : Value} {L : List Sp} (h : SpR w v L) (hb : Below w.heap.size w w') : SpR w' v L := let ⟨A, c, e, n⟩ := h; ⟨A, c, e, n.keep hb⟩
theorem SpR.own {w : World} {base n : Nat} {v : Value} {M : List Sp} {T : TypeId} (h : w.ownsRow base T 3 v n (spvalsN M)) (hn : n = M.length) : SpR w v M := by
  subst hn
  have hl := h.lt
  have hc := fun g hg => h.cells (g := g) hg
  rcases h.2 with ⟨rfl, h0⟩ | ⟨g, cap, cur, rfl, _⟩
  · exact ⟨none, 0, by rw [h0], ⟨fun h => absurd h (by omega)⟩⟩
  · refine ⟨_, cap, rfl, ⟨fun _ => ⟨g, 0, rfl, (hl g rfl).2, fun i r hr => ?_⟩⟩⟩
    have e : ∀ j, j < 3 → ∀ u, (valsSp r)[j]? = some u → w.cell? ⟨g, 0 + i * 3 + j, none⟩ = some u := fun j hj u hu => by
      have h1 := hc g rfl (i * 3 + j) u ((spvalsN_get hr j hj).trans hu)
      have hadd : (⟨g, 0, none⟩ : Addr).add (i * 3 + j) = ⟨g, i * 3 + j, none⟩ := by unfold Addr.add; split <;> simp_all
      rw [hadd] at h1
      rwa [Nat.zero_add]
    exact ⟨e 0 (by omega) _ rfl, e 1 (by omega) _ rfl, e 2 (by omega) _ rfl⟩
theorem span_infoN : ∃ (i : TypeInfo) (z : Value), Try.prog.info? 102 = some i ∧ i.zero = some z ∧ i.size = 3 ∧ i.bytes = 24 ∧ z.cells.size = 3 := by
  have hinfo : (Try.prog.info? 102).map (fun i => (i.zero, i.size, i.bytes)) = some (some (.agg #[.int .i64 0, .int .i64 0, .int .i64 0]), 3, 24) := by kernel_rfl
  obtain ⟨i, hi, h1, h2, h3⟩ := info_parts hinfo
  exact ⟨i, _, hi, h1, h2, h3, rfl⟩
theorem newSp3 (W : World) (r : Sp) (T : TypeId) : ∀ (j : Nat) (u : Value), (valsSp r)[j]? = some u → (W.alloc (.cells #[.int .i64 r.sa, .int .i64 r.many, .int .i64 r.need] T)).cell? ((⟨W.heap.size, 0, none⟩ : Addr).add j) = some u := fun j u h => by
  have hadd : (⟨W.heap.size, 0, none⟩ : Addr).add j = ⟨W.heap.size, j, none⟩ := by unfold Addr.add; split <;> simp_all
  rw [hadd]
  exact (cellS (newS W _) j).trans (by simpa [valsSp] using h)
theorem valsSp_one (r : Sp) : ∀ u ∈ valsSp r, u.oneCell' = true := by intro u hu; simp [valsSp] at hu; rcases hu with rfl | rfl | rfl <;> rfl
theorem own_belowN {w w' : World} {base : Nat} {e : TypeId} {size : Nat} {v : Value} {n : Nat} {xs : List Value} (h : w.ownsRow base e size v n xs) (hb : Below w.heap.size w w') : w'.ownsRow base e size v n xs :=
  h.kept (row := none) ⟨hb.os, hb.tape, hb.output, hb.size, fun k hk _ => hb.block k hk⟩ (by cases v.ownBlock <;> simp)
set_option maxRecDepth 100000 in
theorem colSpans_w (A1 A2 A3 : Option Addr) (c1 n1 c2 n2 c3 : Nat) (L : List Ce) (w : World) (h : CeV w A3 L) (hL : L.length ≤ 10) (hsm : ∀ p ∈ L, smW p) :
    Calls Try.prog 87 #[.agg #[.slice A1 n1 c1, .slice A2 n2 c2, .slice A3 L.length c3]] w fun e w' => (∃ v, e = .returned v ∧ SpR w' v (L.map acM)) ∧ Below w.heap.size w w' := by
  obtain ⟨ti, tz, ti1, ti2, ti3, ti4, ti5⟩ := span_infoN
  have HSM := Lib.hid hsm
  clear hsm
  have ho0 := World.ownsRow_lit (base := (w.alloc (.cells #[.slice A1 n1 c1, .slice A2 n2 c2, .slice A3 L.length c3] 45 (0, 0))).heap.size) (e := 102) (size := 3) (w.alloc (.cells #[.slice A1 n1 c1, .slice A2 n2 c2, .slice A3 L.length c3] 45 (0, 0))) #[] 0 (Nat.le_refl _) (by decide) rfl
  rw [World.size_alloc] at ho0
  have HO := Lib.hid (show ((w.alloc (.cells #[.slice A1 n1 c1, .slice A2 n2 c2, .slice A3 L.length c3] 45 (0, 0))).alloc (.cells #[] 102 (0, 0))).ownsRow (w.heap.size + 1) 102 3 (.slice (some ⟨w.heap.size + 1, 0, none⟩) 0 0) 0 (spvalsN []) from ho0)
  have HG := Lib.hid ((Below.heap_alloc (w.alloc (.cells #[.slice A1 n1 c1, .slice A2 n2 c2, .slice A3 L.length c3] 45 (0, 0))) (.cells #[] 102 (0, 0)) w.heap.size (by simp)).trans (newS w (.cells #[.slice A1 n1 c1, .slice A2 n2 c2, .slice A3 L.length c3] 45 (0, 0))))
  have HB := Lib.hid (balloc (o := (.cells #[] 102 (0, 0))) (balloc (o := (.cells #[.slice A1 n1 c1, .slice A2 n2 c2, .slice A3 L.length c3] 45 (0, 0))) (Below.refl w.heap.size w)))
  clear ho0
  go_enter Try.func87, Try.ntmps87
  go_wp2_with fail
  go_loopw [3, 4] (fun out i wr => ∃ k : Nat, k ≤ L.length ∧ i = .int .i64 k ∧ wr.ownsRow (w.heap.size + 1) 102 3 out k (spvalsN ((L.map acM).take k)) ∧ wr.heap[w.heap.size]? = some (.cells #[.slice A1 n1 c1, .slice A2 n2 c2, .slice A3 L.length c3] 45 (0, 0)) ∧ Below w.heap.size w wr) (fun _ i _ => L.length - (intOf i).toNat)
  case atStart => exact ⟨0, by omega, rfl, HO.out, HG.out, HB.out⟩
  case round =>
    obtain ⟨k, hk, rfl, ho, hg, hB⟩ := hrel
    clear HO HB HG
    have g2 := cellS hg 2
    by_cases hlt : k < L.length
    · have hd : decide ((k : Int) < (L.length : Int)) = true := by simpa using hlt
      obtain ⟨b, off, rfl, hb, hp⟩ := (h.keep hB).cells (by omega)
      have hget : L[k]? = some L[k] := List.getElem?_eq_getElem hlt
      obtain ⟨d0, d1, d2, d3, d4, d5, d6, d7, d8⟩ := hp k _ hget
      have hsk : smW L[k] := HSM.out _ (List.getElem_mem hlt)
      generalize hx : L[k] = p at *
      have HTS := Lib.hid (spvalsN_succ (show (L.map acM)[k]? = some (acM p) by rw [List.getElem?_map, hget]; rfl))
      have hob := ho.lt
      have HO := Lib.hid ho
      have HB := Lib.hid hB
      have HG := Lib.hid hg
      clear ho hB hg hp hget hx
      go_upto_region 6 with (fail)
      refine wp_genGG (fun W => W.heap[wr.heap.size]? = some (.cells #[.int .i64 p.co, .int .i64 p.ro, .int .i64 p.mc, .int .i64 p.mr, .int .i64 p.cw, .int .i64 p.ch, .int .i64 p.sk, .int .i64 p.px, .int .i64 p.py] 52 (0, 0)) ∧ Below wr.heap.size wr W) ⟨newS _ _, balloc (Below.refl _ _)⟩ (fun W h0 => ?_)
      clear d0 d1 d2 d3 d4 d5 d6 d7 d8 g2
      obtain ⟨hx, hbW⟩ := h0
      have x0 := cellS hx 0
      have x1 := cellS hx 2
      have x2 := cellS hx 4
      have x3 := cellS hx 7
      have hlg := ltS HG.out
      have hsW := hbW.size
      replace HO := Lib.hid (own_belowN HO.out hbW)
      replace HG := Lib.hid ((hbW.block _ hlg).trans HG.out)
      replace HB := Lib.hid (bkeep2 HB.out hbW)
      obtain ⟨⟨b1, b2⟩, ⟨b3, b4⟩, ⟨b5, b6⟩, ⟨b7, b8⟩⟩ := hsk
      clear hx hbW
      go_wp2_with (at_builtin; refine wpList_append_own _ rfl _ _ 99 rfl (w.heap.size + 1) 102 ti tz 3 24 Try.underlying99 ti1 ti2 ti3 ti4 ti5 (by decide) _ _ _ rfl (HO.out.alloc _) ⟨W.heap.size, 0, none⟩ 1 1 (valsSp (acM p)) rfl rfl (newSp3 _ (acM p) _) (valsSp_one _) (by simp only [maxLen]; omega) (by omega) (by simp; omega) ?_)
      intro v5 w5 how5 hgr5 _
      rw [HTS.out] at how5
      have hg5 := (hgr5.block w.heap.size (by simp; omega) (fun e => by have := hob _ e.symm; omega)).trans ((Below.heap_alloc _ _ _ (by omega)).trans HG.out)
      replace HB := Lib.hid (below_own HB.out hgr5 hob (by omega) (Nat.le_refl _))
      replace HO := Lib.hid how5
      replace HG := Lib.hid hg5
      clear how5 hgr5 hob x0 x1 x2 x3 hg5
      go_wp2
      go_roundw
      case rel => exact ⟨k + 1, by omega, by go_num, by simpa using HO.out, HG.out, HB.out⟩
      case measure => simp [intOf]; omega
    · have hd : decide ((k : Int) < (L.length : Int)) = false := decide_eq_false (by omega)
      obtain rfl : k = L.length := by omega
      have he : (L.map acM).take L.length = L.map acM := List.take_of_length_le (by simp)
      rw [he] at ho
      have HR := Lib.hid (SpR.own ho (by simp))
      have HB := Lib.hid hB
      clear ho hB he hg
      go_wp2
      go_ret
      exact ⟨⟨_, rfl, HR.out⟩, HB.out⟩
set_option maxRecDepth 100000 in
theorem rowSpans_w (A1 A2 A3 : Option Addr) (c1 n1 c2 n2 c3 : Nat) (L : List Ce) (w : World) (h : CeV w A3 L) (hL : L.length ≤ 10) (hsm : ∀ p ∈ L, smW p) :
    Calls Try.prog 88 #[.agg #[.slice A1 n1 c1, .slice A2 n2 c2, .slice A3 L.length c3]] w fun e w' => (∃ v, e = .returned v ∧ SpR w' v (L.map dnM)) ∧ Below w.heap.size w w' := by
  obtain ⟨ti, tz, ti1, ti2, ti3, ti4, ti5⟩ := span_infoN
  have HSM := Lib.hid hsm
  clear hsm
  have ho0 := World.ownsRow_lit (base := (w.alloc (.cells #[.slice A1 n1 c1, .slice A2 n2 c2, .slice A3 L.length c3] 45 (0, 0))).heap.size) (e := 102) (size := 3) (w.alloc (.cells #[.slice A1 n1 c1, .slice A2 n2 c2, .slice A3 L.length c3] 45 (0, 0))) #[] 0 (Nat.le_refl _) (by decide) rfl
  rw [World.size_alloc] at ho0
  have HO := Lib.hid (show ((w.alloc (.cells #[.slice A1 n1 c1, .slice A2 n2 c2, .slice A3 L.length c3] 45 (0, 0))).alloc (.cells #[] 102 (0, 0))).ownsRow (w.heap.size + 1) 102 3 (.slice (some ⟨w.heap.size + 1, 0, none⟩) 0 0) 0 (spvalsN []) from ho0)
  have HG := Lib.hid ((Below.heap_alloc (w.alloc (.cells #[.slice A1 n1 c1, .slice A2 n2 c2, .slice A3 L.length c3] 45 (0, 0))) (.cells #[] 102 (0, 0)) w.heap.size (by simp)).trans (newS w (.cells #[.slice A1 n1 c1, .slice A2 n2 c2, .slice A3 L.length c3] 45 (0, 0))))
  have HB := Lib.hid (balloc (o := (.cells #[] 102 (0, 0))) (balloc (o := (.cells #[.slice A1 n1 c1, .slice A2 n2 c2, .slice A3 L.length c3] 45 (0, 0))) (Below.refl w.heap.size w)))
  clear ho0
  go_enter Try.func88, Try.ntmps88
  go_wp2_with fail
  go_loopw [3, 4] (fun out i wr => ∃ k : Nat, k ≤ L.length ∧ i = .int .i64 k ∧ wr.ownsRow (w.heap.size + 1) 102 3 out k (spvalsN ((L.map dnM).take k)) ∧ wr.heap[w.heap.size]? = some (.cells #[.slice A1 n1 c1, .slice A2 n2 c2, .slice A3 L.length c3] 45 (0, 0)) ∧ Below w.heap.size w wr) (fun _ i _ => L.length - (intOf i).toNat)
  case atStart => exact ⟨0, by omega, rfl, HO.out, HG.out, HB.out⟩
  case round =>
    obtain ⟨k, hk, rfl, ho, hg, hB⟩ := hrel
    clear HO HB HG
    have g2 := cellS hg 2
    by_cases hlt : k < L.length
    · have hd : decide ((k : Int) < (L.length : Int)) = true := by simpa using hlt
      obtain ⟨b, off, rfl, hb, hp⟩ := (h.keep hB).cells (by omega)
      have hget : L[k]? = some L[k] := List.getElem?_eq_getElem hlt
      obtain ⟨d0, d1, d2, d3, d4, d5, d6, d7, d8⟩ := hp k _ hget
      have hsk : smW L[k] := HSM.out _ (List.getElem_mem hlt)
      generalize hx : L[k] = p at *
      have HTS := Lib.hid (spvalsN_succ (show (L.map dnM)[k]? = some (dnM p) by rw [List.getElem?_map, hget]; rfl))
      have hob := ho.lt
      have HO := Lib.hid ho
      have HB := Lib.hid hB
      have HG := Lib.hid hg
      clear ho hB hg hp hget hx
      go_upto_region 6 with (fail)
      refine wp_genGG (fun W => W.heap[wr.heap.size]? = some (.cells #[.int .i64 p.co, .int .i64 p.ro, .int .i64 p.mc, .int .i64 p.mr, .int .i64 p.cw, .int .i64 p.ch, .int .i64 p.sk, .int .i64 p.px, .int .i64 p.py] 52 (0, 0)) ∧ Below wr.heap.size wr W) ⟨newS _ _, balloc (Below.refl _ _)⟩ (fun W h0 => ?_)
      clear d0 d1 d2 d3 d4 d5 d6 d7 d8 g2
      obtain ⟨hx, hbW⟩ := h0
      have x0 := cellS hx 1
      have x1 := cellS hx 3
      have x2 := cellS hx 5
      have x3 := cellS hx 8
      have hlg := ltS HG.out
      have hsW := hbW.size
      replace HO := Lib.hid (own_belowN HO.out hbW)
      replace HG := Lib.hid ((hbW.block _ hlg).trans HG.out)
      replace HB := Lib.hid (bkeep2 HB.out hbW)
      obtain ⟨⟨b1, b2⟩, ⟨b3, b4⟩, ⟨b5, b6⟩, ⟨b7, b8⟩⟩ := hsk
      clear hx hbW
      go_wp2_with (at_builtin; refine wpList_append_own _ rfl _ _ 99 rfl (w.heap.size + 1) 102 ti tz 3 24 Try.underlying99 ti1 ti2 ti3 ti4 ti5 (by decide) _ _ _ rfl (HO.out.alloc _) ⟨W.heap.size, 0, none⟩ 1 1 (valsSp (dnM p)) rfl rfl (newSp3 _ (dnM p) _) (valsSp_one _) (by simp only [maxLen]; omega) (by omega) (by simp; omega) ?_)
      intro v5 w5 how5 hgr5 _
      rw [HTS.out] at how5
      have hg5 := (hgr5.block w.heap.size (by simp; omega) (fun e => by have := hob _ e.symm; omega)).trans ((Below.heap_alloc _ _ _ (by omega)).trans HG.out)
      replace HB := Lib.hid (below_own HB.out hgr5 hob (by omega) (Nat.le_refl _))
      replace HO := Lib.hid how5
      replace HG := Lib.hid hg5
      clear how5 hgr5 hob x0 x1 x2 x3 hg5
      go_wp2
      go_roundw
      case rel => exact ⟨k + 1, by omega, by go_num, by simpa using HO.out, HG.out, HB.out⟩
      case measure => simp [intOf]; omega
    · have hd : decide ((k : Int) < (L.length : Int)) = false := decide_eq_false (by omega)
      obtain rfl : k = L.length := by omega
      have he : (L.map dnM).take L.length = L.map dnM := List.take_of_length_le (by simp)
      rw [he] at ho
      have HR := Lib.hid (SpR.own ho (by simp))
      have HB := Lib.hid hB
      clear ho hB he hg
      go_wp2
      go_ret
      exact ⟨⟨_, rfl, HR.out⟩, HB.out⟩
theorem colSpans_v (A1 A2 A3 : Option Addr) (c1 n1 c2 n2 c3 : Nat) (L : List Ce) (w : World) (h : CeV w A3 L) (hL : L.length ≤ 8) (hsm : ∀ p ∈ L, smC p) :
    Calls Try.prog 87 #[.agg #[.slice A1 n1 c1, .slice A2 n2 c2, .slice A3 L.length c3]] w fun e w' => (∃ v, e = .returned v ∧ SpR w' v (L.map acM)) ∧ Below w.heap.size w w' := colSpans_w A1 A2 A3 c1 n1 c2 n2 c3 L w h (by omega) (fun p hp => (hsm p hp).w)
theorem rowSpans_v (A1 A2 A3 : Option Addr) (c1 n1 c2 n2 c3 : Nat) (L : List Ce) (w : World) (h : CeV w A3 L) (hL : L.length ≤ 8) (hsm : ∀ p ∈ L, smC p) :
    Calls Try.prog 88 #[.agg #[.slice A1 n1 c1, .slice A2 n2 c2, .slice A3 L.length c3]] w fun e w' => (∃ v, e = .returned v ∧ SpR w' v (L.map dnM)) ∧ Below w.heap.size w w' := rowSpans_w A1 A2 A3 c1 n1 c2 n2 c3 L w h (by omega) (fun p hp => (hsm p hp).w)
end Go.Proofs.Ytjdjahckdgbkbac
end
section
namespace Go.Proofs.Ytjdjahckdgbkbac
open Go Go.RowKit
set_option linter.unusedVariables false
section
variable {P : Program}
def XV (u : Value) : Value → World → Prop := fun v _ => v = u
def XT : Value → World → Prop := fun _ _ => True
/-- what stays true when memory is made -/
def Stay (T : Value → World → Prop) : Prop := ∀ v a b, T v a → Gr a b → T v b
theorem stay_V (u : Value) : Stay (XV u) := fun _ _ _ h _ => h
theorem stay_T : Stay XT := fun _ _ _ _ _ => trivial
theorem stay_of {F : Value → World → Prop} (h : ∀ v a b, F v a → Below a.heap.size a b → F v b) : Stay F := fun v a b x g => h v a b x g.out
theorem stay_list {l : List (Value → World → Prop)} (h : ∀ T ∈ l, Stay T) : ∀ k v a b, (l.getD k XT) v a → Gr a b → (l.getD k XT) v b := by
  intro k v a b hv g
  rw [List.getD_eq_getElem?_getD] at *
  cases hk : l[k]? with
  | none => trivial
  | some T => rw [hk] at hv; exact h T (List.mem_of_getElem? hk) v a b hv g
def GIx (_ : Nat) (_ : World) : Prop := True
theorem gx_gen {K : Value → World → Prop} {r : Result Next} (h : ∀ K' : Value → World → Prop, (∀ v w', K v w' → K' v w') → givesUpon P K' r) : givesUpon P K r := h K fun _ _ h => h
theorem lookD_imp {T : Nat → Value → World → Prop} {a0 a : Act} {w : World} {G G' : Prop} (hG : G → G') : ∀ {ds : List (Tmp × Option Nat)}, lookD T a0 a w ds G → lookD T a0 a w ds G'
  | [], h => hG h
  | (t, some j) :: r, h => fun x => lookD_imp (ds := r) hG (h x)
  | (t, none) :: r, h => fun x => lookD_imp (ds := r) hG (h x)
theorem givesUpon_imp {K K' : Value → World → Prop} (hK : ∀ v w, K v w → K' v w) {r : Result Next} (h : givesUpon P K r) : givesUpon P K' r := by
  unfold givesUpon at *
  split at h
  · exact hK _ _ h
  · exact hK _ _ h
  · exact h.mono fun e w' ⟨v, e1, e2⟩ => ⟨v, e1, hK _ _ e2⟩
  · exact h.elim
theorem opOK_rx {ops : List Oper} {T : Nat → Value → World → Prop} {a0 : Act} {w0 : World} {k : Nat} {o : Oper} (ds : List (Tmp × Option Nat)) (hB : dsB ops o ds = true) (hg : o.guard = none)
    (h : ∀ (a : Act) (w : World), Gr w0 w → lookD T a0 a w ds (givesUpon P (fun v w' => T k v w' ∧ Gr w w') ((execOp a.eval o).run P w))) : opOK P ops T Gr GIx a0 w0 k o :=
  opOK_ds ds hB hg fun m a w _ hR _ => lookD_imp (fun x => givesUpon_imp (fun v w' ⟨h1, h2⟩ => ⟨h1, h2, trivial⟩) x) (h a w hR)
theorem wp_region_rx {id : Nat} {l : List Oper} {Q : Exit → Act → World → Prop} {a0 : Act} {w : World} (tl : List (Value → World → Prop))
    (hm : P.follows .mixedOrders = true) (hB : rgB l a0.tmps.size = true) (hTs : ∀ T ∈ tl, Stay T)
    (hops : opsOK P l (fun k => tl.getD k XT) Gr GIx a0 w.drew l 0) (hfin : ∀ w', Gr w.drew w' → finP (fun k => tl.getD k XT) w' (fun a' => Q .normal a' w') l 0 a0) : (Code.region id l.toArray true).wp P Q a0 w :=
  wp_region_rgl (fun k => tl.getD k XT) Gr GIx hm hB Gr.refl (fun _ _ _ h k => h.trans k) (stay_list hTs) trivial hops fun w' h _ => hfin w' h
end
end Go.Proofs.Ytjdjahckdgbkbac
end
