import Derived.Test.YtjdjahckdgbkbacQ02
import Derived.Deep.Cut
import Derived.LoopTactic
import Derived.OwnWalk
import Derived.Lib.SmallJoins
section
namespace Go.Proofs.Ytjdjahckdgbkbac
open Go.RowKit
set_option linter.unusedVariables false
set_option maxHeartbeats 1000000
attribute [local go_sem] growUpon_value growUpon_skip growUpon_enter
theorem wp_genGG {P : Program} {c : Code} {Q : Exit → Act → World → Prop} {a : Act} {W : World} (F : World → Prop) (hF : F W) (h : ∀ W0, F W0 → c.wp P Q a W0) : c.wp P Q a W := h W hF
theorem bp_genG {P : Program} {f : Func} {R : Ending → World → Prop} {e : Exit} {a : Act} {W : World} (F : World → Prop) (hF : F W) (h : ∀ W0, F W0 → bodyPost P f R e a W0) : bodyPost P f R e a W := h W hF
set_option maxRecDepth 100000 in
theorem szGrid_yes (A1 : Option Addr) (c1 n1 : Nat) (A2 : Option Addr) (c2 n2 : Nat) (A3 : Option Addr) (c3 n3 : Nat) (w : World) (h : (n1 : Int) + n2 + n3 ≤ 1048576) :
    Calls Try.prog 18 #[.agg #[.slice A1 n1 c1, .slice A2 n2 c2, .slice A3 n3 c3], .int .i64 1048576] w fun e w' => e = .returned (.int .i64 (1048576 - n1 - n2 - n3)) ∧ Below w.heap.size w w' := by
  have d1 : decide ((1048576 : Int) - (n1 : Int) < 0) = false := by simp; omega
  have d2 : decide ((1048576 : Int) - (n1 : Int) - (n2 : Int) < 0) = false := by simp; omega
  have d3 : decide ((1048576 : Int) - (n1 : Int) - (n2 : Int) - (n3 : Int) < 0) = false := by simp; omega
  go_enter Try.func18, Try.ntmps18
  go_wp2_with fail
  with_reducible refine (szLnS_yes A1 c1 n1 1048576 _ (by omega) (by omega)).mono ?_
  rintro e w1 ⟨rfl, rfl⟩
  go_wp2_with fail
  with_reducible refine (szLnS_yes A2 c2 n2 _ _ (by omega) (by omega)).mono ?_
  rintro e w1 ⟨rfl, rfl⟩
  go_wp2_with fail
  with_reducible refine (szCeS_yes A3 c3 n3 _ _ (by omega) (by omega)).mono ?_
  rintro e w1 ⟨rfl, rfl⟩
  go_wp2
  go_ret
  exact ⟨rfl, balloc (Below.refl _ _)⟩
set_option maxRecDepth 100000 in
theorem szGrid_no (A1 : Option Addr) (c1 n1 : Nat) (A2 : Option Addr) (c2 n2 : Nat) (A3 : Option Addr) (c3 n3 : Nat) (w : World) (h : ¬ (n1 : Int) + n2 + n3 ≤ 1048576) (m1 : n1 ≤ maxLen) (m2 : n2 ≤ maxLen) (m3 : n3 ≤ maxLen) :
    Calls Try.prog 18 #[.agg #[.slice A1 n1 c1, .slice A2 n2 c2, .slice A3 n3 c3], .int .i64 1048576] w fun e w' => e = .returned (.int .i64 (-1)) ∧ Below w.heap.size w w' := by
  by_cases g1 : (n1 : Int) ≤ 1048576
  · have d1 : decide ((1048576 : Int) - (n1 : Int) < 0) = false := by simp; omega
    by_cases g2 : (n2 : Int) ≤ 1048576 - (n1 : Int)
    · have d2 : decide ((1048576 : Int) - (n1 : Int) - (n2 : Int) < 0) = false := by simp; omega
      go_enter Try.func18, Try.ntmps18
      go_wp2_with fail
      with_reducible refine (szLnS_yes A1 c1 n1 1048576 _ (by omega) (by omega)).mono ?_
      rintro e w1 ⟨rfl, rfl⟩
      go_wp2_with fail
      with_reducible refine (szLnS_yes A2 c2 n2 _ _ (by omega) (by omega)).mono ?_
      rintro e w1 ⟨rfl, rfl⟩
      go_wp2_with fail
      with_reducible refine (szCeS_no A3 c3 n3 _ _ (by omega) (by omega) (by omega) m3).mono ?_
      rintro e w1 ⟨rfl, rfl⟩
      go_wp2
      go_ret
      exact ⟨rfl, balloc (Below.refl _ _)⟩
    · go_enter Try.func18, Try.ntmps18
      go_wp2_with fail
      with_reducible refine (szLnS_yes A1 c1 n1 1048576 _ (by omega) (by omega)).mono ?_
      rintro e w1 ⟨rfl, rfl⟩
      go_wp2_with fail
      with_reducible refine (szLnS_no A2 c2 n2 _ _ (by omega) (by omega) (by omega) m2).mono ?_
      rintro e w1 ⟨rfl, rfl⟩
      go_wp2
      go_ret
      exact ⟨rfl, balloc (Below.refl _ _)⟩
  · go_enter Try.func18, Try.ntmps18
    go_wp2_with fail
    with_reducible refine (szLnS_no A1 c1 n1 1048576 _ (by omega) (by omega) (by omega) m1).mono ?_
    rintro e w1 ⟨rfl, rfl⟩
    go_wp2
    go_ret
    exact ⟨rfl, balloc (Below.refl _ _)⟩
/-- a grid that was copied, in blocks of its own -/
def GB (lo : Nat) (w : World) (v : Value) (L1 L2 : List Ln) (L3 : List Ce) : Prop :=
  ∃ g1 g2 g3 : Nat, v = .agg #[.slice (some ⟨g1, 0, none⟩) L1.length L1.length, .slice (some ⟨g2, 0, none⟩) L2.length L2.length, .slice (some ⟨g3, 0, none⟩) L3.length L3.length] ∧ lo ≤ g1 ∧ g1 < g2 ∧ g2 < g3 ∧ LnB w g1 L1 ∧ LnB w g2 L2 ∧ CeB w g3 L3
theorem GB.any {lo : Nat} {w : World} {v : Value} {L1 L2 : List Ln} {L3 : List Ce} (h : GB lo w v L1 L2 L3) : GB 0 w v L1 L2 L3 := by
  obtain ⟨g1, g2, g3, e, a, b, c, k1, k2, k3⟩ := h
  exact ⟨g1, g2, g3, e, by omega, b, c, k1, k2, k3⟩
theorem GB.keep {lo : Nat} {w w' : World} {v : Value} {L1 L2 : List Ln} {L3 : List Ce} (h : GB lo w v L1 L2 L3) (hb : Below w.heap.size w w') : GB lo w' v L1 L2 L3 := by
  obtain ⟨g1, g2, g3, e, a, b, c, k1, k2, k3⟩ := h
  exact ⟨g1, g2, g3, e, a, b, c, k1.keep hb, k2.keep hb, k3.keep hb⟩
set_option maxRecDepth 100000 in
theorem toGrid_v (A1 : Option Addr) (c1 : Nat) (L1 : List Ln) (A2 : Option Addr) (c2 : Nat) (L2 : List Ln) (A3 : Option Addr) (c3 : Nat) (L3 : List Ce) (w : World) (h1 : LnV w A1 L1) (h2 : LnV w A2 L2) (h3 : CeV w A3 L3) (k1 : L1.length ≤ 1048576) (k2 : L2.length ≤ 1048576) (k3 : L3.length ≤ 1048576) :
    Calls Try.prog 20 #[.agg #[.slice A1 L1.length c1, .slice A2 L2.length c2, .slice A3 L3.length c3]] w fun e w' => (∃ v, e = .returned v ∧ GB w.heap.size w' v L1 L2 L3) ∧ Below w.heap.size w w' := by
  have hB0 : Below w.heap.size w (((w.alloc (.cells #[.slice A1 L1.length c1, .slice A2 L2.length c2, .slice A3 L3.length c3] 39 (0, 0))).alloc (.cells #[.slice none 0 0, .slice none 0 0, .slice none 0 0] 45 (0, 0))).alloc (.cells #[.slice none 0 0, .slice none 0 0, .slice none 0 0] 45 (0, 0))) := balloc (balloc (balloc (Below.refl _ _)))
  have hx0 : (((w.alloc (.cells #[.slice A1 L1.length c1, .slice A2 L2.length c2, .slice A3 L3.length c3] 39 (0, 0))).alloc (.cells #[.slice none 0 0, .slice none 0 0, .slice none 0 0] 45 (0, 0))).alloc (.cells #[.slice none 0 0, .slice none 0 0, .slice none 0 0] 45 (0, 0))).heap[w.heap.size]? = some (.cells #[.slice A1 L1.length c1, .slice A2 L2.length c2, .slice A3 L3.length c3] 39 (0, 0)) := (Below.heap_alloc _ (.cells #[.slice none 0 0, .slice none 0 0, .slice none 0 0] 45 (0, 0)) w.heap.size (by first | (simp; done) | (simp; omega))).trans ((Below.heap_alloc _ (.cells #[.slice none 0 0, .slice none 0 0, .slice none 0 0] 45 (0, 0)) w.heap.size (by simp)).trans (newS w (.cells #[.slice A1 L1.length c1, .slice A2 L2.length c2, .slice A3 L3.length c3] 39 (0, 0))))
  have hy0 : (((w.alloc (.cells #[.slice A1 L1.length c1, .slice A2 L2.length c2, .slice A3 L3.length c3] 39 (0, 0))).alloc (.cells #[.slice none 0 0, .slice none 0 0, .slice none 0 0] 45 (0, 0))).alloc (.cells #[.slice none 0 0, .slice none 0 0, .slice none 0 0] 45 (0, 0))).heap[w.heap.size + 1]? = some (.cells #[.slice none 0 0, .slice none 0 0, .slice none 0 0] 45 (0, 0)) := (Below.heap_alloc _ (.cells #[.slice none 0 0, .slice none 0 0, .slice none 0 0] 45 (0, 0)) (w.heap.size + 1) (by simp)).trans (by have := newS (w.alloc (.cells #[.slice A1 L1.length c1, .slice A2 L2.length c2, .slice A3 L3.length c3] 39 (0, 0))) (.cells #[.slice none 0 0, .slice none 0 0, .slice none 0 0] 45 (0, 0)); rwa [World.size_alloc] at this)
  have hz0 : (((w.alloc (.cells #[.slice A1 L1.length c1, .slice A2 L2.length c2, .slice A3 L3.length c3] 39 (0, 0))).alloc (.cells #[.slice none 0 0, .slice none 0 0, .slice none 0 0] 45 (0, 0))).alloc (.cells #[.slice none 0 0, .slice none 0 0, .slice none 0 0] 45 (0, 0))).heap[w.heap.size + 1 + 1]? = some (.cells #[.slice none 0 0, .slice none 0 0, .slice none 0 0] 45 (0, 0)) := by have := newS ((w.alloc (.cells #[.slice A1 L1.length c1, .slice A2 L2.length c2, .slice A3 L3.length c3] 39 (0, 0))).alloc (.cells #[.slice none 0 0, .slice none 0 0, .slice none 0 0] 45 (0, 0))) (.cells #[.slice none 0 0, .slice none 0 0, .slice none 0 0] 45 (0, 0)); rwa [World.size_alloc, World.size_alloc] at this
  have HX0 := Lib.hid hx0
  have HY0 := Lib.hid hy0
  have HZ0 := Lib.hid hz0
  have HB0 := Lib.hid hB0
  have HV0 := Lib.hid (h1.keep hB0)
  have HV1 := Lib.hid (h2.keep hB0)
  have HV2 := Lib.hid (h3.keep hB0)
  clear hB0 hx0 hy0 hz0
  go_enter Try.func20, Try.ntmps20
  go_upto_region 2 with (fail)
  refine wp_genGG (fun W => W.heap[w.heap.size]? = some (.cells #[.slice A1 L1.length c1, .slice A2 L2.length c2, .slice A3 L3.length c3] 39 (0, 0)) ∧ W.heap[w.heap.size + 1]? = some (.cells #[.slice none 0 0, .slice none 0 0, .slice none 0 0] 45 (0, 0)) ∧ W.heap[w.heap.size + 1 + 1]? = some (.cells #[.slice none 0 0, .slice none 0 0, .slice none 0 0] 45 (0, 0)) ∧ Below w.heap.size w W) ⟨HX0.out, HY0.out, HZ0.out, HB0.out⟩ (fun w0 h0 => ?_)
  clear HX0 HY0 HZ0 HB0 HV0 HV1 HV2
  obtain ⟨hx, hy, hz, hb⟩ := h0
  have HX := Lib.hid hx
  have HY := Lib.hid hy
  have HZ := Lib.hid hz
  have HB := Lib.hid hb
  have H1 := Lib.hid h1
  have H2 := Lib.hid h2
  have H3 := Lib.hid h3
  clear hx hy hz hb h1 h2 h3
  have d := cellS HX.out 0
  have hlz0 := ltS HZ.out
  go_wp2_with fail
  with_reducible refine (toLnS_any A1 c1 L1 _ (H1.out.keep HB.out) k1).mono ?_
  rintro e w1 ⟨rfl, hk, hb⟩
  clear d
  replace HX := Lib.hid ((hb.block _ (Array.getElem?_eq_some_iff.1 HX.out).1).trans HX.out)
  replace HY := Lib.hid ((hb.block _ (Array.getElem?_eq_some_iff.1 HY.out).1).trans HY.out)
  replace HZ := Lib.hid ((hb.block _ (Array.getElem?_eq_some_iff.1 HZ.out).1).trans HZ.out)
  replace HB := Lib.hid (bkeep2 HB.out hb)
  clear hb
  have HK0 := Lib.hid hk
  clear hk
  have z := cellS HZ.out 0
  have zf := frozenS HZ.out 0
  have ne : w0.heap.size ≠ w.heap.size + 1 + 1 := by omega
  have p := putS (i := 0) HZ.out (.slice (some ⟨w0.heap.size, 0, none⟩) L1.length L1.length)
  simp only [List.setIfInBounds_toArray, List.set_cons_succ, List.set_cons_zero] at p
  have HP := Lib.hid p
  clear p
  go_upto_region 3 with (fail)
  refine wp_genGG (fun W => W.heap[w.heap.size]? = some (.cells #[.slice A1 L1.length c1, .slice A2 L2.length c2, .slice A3 L3.length c3] 39 (0, 0)) ∧ W.heap[w.heap.size + 1]? = some (.cells #[.slice none 0 0, .slice none 0 0, .slice none 0 0] 45 (0, 0)) ∧ W.heap[w.heap.size + 1 + 1]? = some (.cells #[.slice (some ⟨w0.heap.size, 0, none⟩) L1.length L1.length, .slice none 0 0, .slice none 0 0] 45 (0, 0)) ∧ Below w.heap.size w W ∧ LnB W w0.heap.size L1) ⟨(Below.heap_setCell _ _ _ w.heap.size (by simp; omega)).trans HX.out, (Below.heap_setCell _ _ _ (w.heap.size + 1) (by simp)).trans HY.out, HP.out, HB.out.setCell (p := ⟨w.heap.size + 1 + 1, 0, none⟩) (by simp; omega) _, HK0.out.but (gsetS (greflS _ (w.heap.size + 1 + 1)) 0 _) ne⟩ (fun w2 hh => ?_)
  have ne_0 := Lib.hid ne
  clear HX HY HZ HB HP z zf ne HK0 
  obtain ⟨hx, hy, hz, hb, hk0⟩ := hh
  have HX := Lib.hid hx
  have HY := Lib.hid hy
  have HZ := Lib.hid hz
  have HB := Lib.hid hb
  have HK0 := Lib.hid hk0
  clear hx hy hz hb hk0
  have d := cellS HX.out 1
  have hlz1 := ltS HZ.out
  have hlk1_0 := HK0.out.lt
  go_wp2_with fail
  with_reducible refine (toLnS_any A2 c2 L2 _ (H2.out.keep HB.out) k2).mono ?_
  rintro e w3 ⟨rfl, hk, hb⟩
  clear d
  replace HX := Lib.hid ((hb.block _ (Array.getElem?_eq_some_iff.1 HX.out).1).trans HX.out)
  replace HY := Lib.hid ((hb.block _ (Array.getElem?_eq_some_iff.1 HY.out).1).trans HY.out)
  replace HZ := Lib.hid ((hb.block _ (Array.getElem?_eq_some_iff.1 HZ.out).1).trans HZ.out)
  replace HK0 := Lib.hid (HK0.out.keep hb)
  replace HB := Lib.hid (bkeep2 HB.out hb)
  clear hb
  have HK1 := Lib.hid hk
  clear hk
  have z := cellS HZ.out 1
  have zf := frozenS HZ.out 1
  have ne : w2.heap.size ≠ w.heap.size + 1 + 1 := by omega
  have ne0 : w0.heap.size ≠ w.heap.size + 1 + 1 := ne_0.out
  have p := putS (i := 1) HZ.out (.slice (some ⟨w2.heap.size, 0, none⟩) L2.length L2.length)
  simp only [List.setIfInBounds_toArray, List.set_cons_succ, List.set_cons_zero] at p
  have HP := Lib.hid p
  clear p
  go_upto_region 4 with (fail)
  refine wp_genGG (fun W => W.heap[w.heap.size]? = some (.cells #[.slice A1 L1.length c1, .slice A2 L2.length c2, .slice A3 L3.length c3] 39 (0, 0)) ∧ W.heap[w.heap.size + 1]? = some (.cells #[.slice none 0 0, .slice none 0 0, .slice none 0 0] 45 (0, 0)) ∧ W.heap[w.heap.size + 1 + 1]? = some (.cells #[.slice (some ⟨w0.heap.size, 0, none⟩) L1.length L1.length, .slice (some ⟨w2.heap.size, 0, none⟩) L2.length L2.length, .slice none 0 0] 45 (0, 0)) ∧ Below w.heap.size w W ∧ LnB W w0.heap.size L1 ∧ LnB W w2.heap.size L2) ⟨(Below.heap_setCell _ _ _ w.heap.size (by simp; omega)).trans HX.out, (Below.heap_setCell _ _ _ (w.heap.size + 1) (by simp)).trans HY.out, HP.out, HB.out.setCell (p := ⟨w.heap.size + 1 + 1, 1, none⟩) (by simp; omega) _, HK0.out.but (gsetS (greflS _ (w.heap.size + 1 + 1)) 1 _) ne0, HK1.out.but (gsetS (greflS _ (w.heap.size + 1 + 1)) 1 _) ne⟩ (fun w4 hh => ?_)
  have ne_1 := Lib.hid ne
  clear HX HY HZ HB HP z zf ne HK0 HK1 ne0
  obtain ⟨hx, hy, hz, hb, hk0, hk1⟩ := hh
  have HX := Lib.hid hx
  have HY := Lib.hid hy
  have HZ := Lib.hid hz
  have HB := Lib.hid hb
  have HK0 := Lib.hid hk0
  have HK1 := Lib.hid hk1
  clear hx hy hz hb hk0 hk1
  have d := cellS HX.out 2
  have hlz2 := ltS HZ.out
  have hlk2_0 := HK0.out.lt
  have hlk2_1 := HK1.out.lt
  go_wp2_with fail
  with_reducible refine (toCeS_any A3 c3 L3 _ (H3.out.keep HB.out) k3).mono ?_
  rintro e w5 ⟨rfl, hk, hb⟩
  clear d
  replace HX := Lib.hid ((hb.block _ (Array.getElem?_eq_some_iff.1 HX.out).1).trans HX.out)
  replace HY := Lib.hid ((hb.block _ (Array.getElem?_eq_some_iff.1 HY.out).1).trans HY.out)
  replace HZ := Lib.hid ((hb.block _ (Array.getElem?_eq_some_iff.1 HZ.out).1).trans HZ.out)
  replace HK0 := Lib.hid (HK0.out.keep hb)
  replace HK1 := Lib.hid (HK1.out.keep hb)
  replace HB := Lib.hid (bkeep2 HB.out hb)
  clear hb
  have HK2 := Lib.hid hk
  clear hk
  have z := cellS HZ.out 2
  have zf := frozenS HZ.out 2
  have ne : w4.heap.size ≠ w.heap.size + 1 + 1 := by omega
  have ne0 : w0.heap.size ≠ w.heap.size + 1 + 1 := ne_0.out
  have ne1 : w2.heap.size ≠ w.heap.size + 1 + 1 := ne_1.out
  have p := putS (i := 2) HZ.out (.slice (some ⟨w4.heap.size, 0, none⟩) L3.length L3.length)
  simp only [List.setIfInBounds_toArray, List.set_cons_succ, List.set_cons_zero] at p
  have HP := Lib.hid p
  clear p
  go_upto_region 5 with (fail)
  refine wp_genGG (fun W => W.heap[w.heap.size]? = some (.cells #[.slice A1 L1.length c1, .slice A2 L2.length c2, .slice A3 L3.length c3] 39 (0, 0)) ∧ W.heap[w.heap.size + 1]? = some (.cells #[.slice none 0 0, .slice none 0 0, .slice none 0 0] 45 (0, 0)) ∧ W.heap[w.heap.size + 1 + 1]? = some (.cells #[.slice (some ⟨w0.heap.size, 0, none⟩) L1.length L1.length, .slice (some ⟨w2.heap.size, 0, none⟩) L2.length L2.length, .slice (some ⟨w4.heap.size, 0, none⟩) L3.length L3.length] 45 (0, 0)) ∧ Below w.heap.size w W ∧ LnB W w0.heap.size L1 ∧ LnB W w2.heap.size L2 ∧ CeB W w4.heap.size L3) ⟨(Below.heap_setCell _ _ _ w.heap.size (by simp; omega)).trans HX.out, (Below.heap_setCell _ _ _ (w.heap.size + 1) (by simp)).trans HY.out, HP.out, HB.out.setCell (p := ⟨w.heap.size + 1 + 1, 2, none⟩) (by simp; omega) _, HK0.out.but (gsetS (greflS _ (w.heap.size + 1 + 1)) 2 _) ne0, HK1.out.but (gsetS (greflS _ (w.heap.size + 1 + 1)) 2 _) ne1, HK2.out.but (gsetS (greflS _ (w.heap.size + 1 + 1)) 2 _) ne⟩ (fun w6 hh => ?_)
  have ne_2 := Lib.hid ne
  clear HX HY HZ HB HP z zf ne HK0 HK1 HK2 ne0 ne1
  obtain ⟨hx, hy, hz, hb, hk0, hk1, hk2⟩ := hh
  have HX := Lib.hid hx
  have HY := Lib.hid hy
  have HZ := Lib.hid hz
  have HB := Lib.hid hb
  have HK0 := Lib.hid hk0
  have HK1 := Lib.hid hk1
  have HK2 := Lib.hid hk2
  clear hx hy hz hb hk0 hk1 hk2
  have hl01 := hlk1_0
  have hl12 := hlk2_1
  have hl0 := hlz0
  have z0 := cellS HZ.out 0
  have z1 := cellS HZ.out 1
  have z2 := cellS HZ.out 2
  have y0 := cellS HY.out 0
  have y1 := cellS HY.out 1
  have y2 := cellS HY.out 2
  have f0 := frozenS HY.out 0
  have f1 := frozenS HY.out 1
  have f2 := frozenS HY.out 2
  have lz := ltS HZ.out
  have ly := ltS HY.out
  have p := putS (i := 2) (putS (i := 1) (putS (i := 0) HY.out (.slice (some ⟨w0.heap.size, 0, none⟩) L1.length L1.length)) (.slice (some ⟨w2.heap.size, 0, none⟩) L2.length L2.length)) (.slice (some ⟨w4.heap.size, 0, none⟩) L3.length L3.length)
  simp only [List.setIfInBounds_toArray, List.set_cons_succ, List.set_cons_zero] at p
  have HP := Lib.hid p
  clear p
  go_wp2
  refine bp_genG (fun W => W.heap[w.heap.size + 1]? = some (.cells #[.slice (some ⟨w0.heap.size, 0, none⟩) L1.length L1.length, .slice (some ⟨w2.heap.size, 0, none⟩) L2.length L2.length, .slice (some ⟨w4.heap.size, 0, none⟩) L3.length L3.length] 45 (0, 0)) ∧ Below w.heap.size w W ∧ LnB W w0.heap.size L1 ∧ LnB W w2.heap.size L2 ∧ CeB W w4.heap.size L3) ⟨HP.out, ((HB.out.setCell (p := ⟨w.heap.size + 1, 0, none⟩) (by simp) _).setCell (p := ⟨w.heap.size + 1, 1, none⟩) (by simp) _).setCell (p := ⟨w.heap.size + 1, 2, none⟩) (by simp) _, HK0.out.but (gsetS (gsetS (gsetS (greflS _ (w.heap.size + 1)) 0 _) 1 _) 2 _) (by omega), HK1.out.but (gsetS (gsetS (gsetS (greflS _ (w.heap.size + 1)) 0 _) 1 _) 2 _) (by omega), HK2.out.but (gsetS (gsetS (gsetS (greflS _ (w.heap.size + 1)) 0 _) 1 _) 2 _) (by omega)⟩ ?_
  clear HX HY HZ HB HP HK0 HK1 HK2 z0 z1 z2 y0 y1 y2 f0 f1 f2 lz ly
  rintro W ⟨hp, hb, hk0, hk1, hk2⟩
  have q0 := cellS hp 0
  have q1 := cellS hp 1
  have q2 := cellS hp 2
  exact bodyPost_ret (v := .agg #[.slice (some ⟨w0.heap.size, 0, none⟩) L1.length L1.length, .slice (some ⟨w2.heap.size, 0, none⟩) L2.length L2.length, .slice (some ⟨w4.heap.size, 0, none⟩) L3.length L3.length]) (by simp only [results, Try.results20]; go_simp) rfl ⟨⟨_, rfl, w0.heap.size, w2.heap.size, w4.heap.size, rfl, by omega, by omega, by omega, hk0, hk1, hk2⟩, hb⟩
set_option maxRecDepth 100000 in
theorem eqGrid_same (A1 : Option Addr) (c1 : Nat) (L1 : List Ln) (A2 : Option Addr) (c2 : Nat) (L2 : List Ln) (A3 : Option Addr) (c3 : Nat) (L3 : List Ce) (B1 : Option Addr) (e1 : Nat) (B2 : Option Addr) (e2 : Nat) (B3 : Option Addr) (e3 : Nat) (w : World) (h1 : LnV w A1 L1) (h2 : LnV w A2 L2) (h3 : CeV w A3 L3) (k1 : LnV w B1 L1) (k2 : LnV w B2 L2) (k3 : CeV w B3 L3) (m1 : L1.length ≤ 1048576) (m2 : L2.length ≤ 1048576) (m3 : L3.length ≤ 1048576) :
    Calls Try.prog 22 #[.agg #[.slice A1 L1.length c1, .slice A2 L2.length c2, .slice A3 L3.length c3], .agg #[.slice B1 L1.length e1, .slice B2 L2.length e2, .slice B3 L3.length e3]] w fun e w' => e = .returned (.bool true) ∧ Below w.heap.size w w' := by
  have hB0 : Below w.heap.size w ((w.alloc (.cells #[.slice A1 L1.length c1, .slice A2 L2.length c2, .slice A3 L3.length c3] 45 (0, 0))).alloc (.cells #[.slice B1 L1.length e1, .slice B2 L2.length e2, .slice B3 L3.length e3] 45 (0, 0))) := balloc (balloc (Below.refl _ _))
  have HX := Lib.hid ((Below.heap_alloc _ (.cells #[.slice B1 L1.length e1, .slice B2 L2.length e2, .slice B3 L3.length e3] 45 (0, 0)) w.heap.size (by simp)).trans (newS w (.cells #[.slice A1 L1.length c1, .slice A2 L2.length c2, .slice A3 L3.length c3] 45 (0, 0))))
  have hy := newS (w.alloc (.cells #[.slice A1 L1.length c1, .slice A2 L2.length c2, .slice A3 L3.length c3] 45 (0, 0))) (.cells #[.slice B1 L1.length e1, .slice B2 L2.length e2, .slice B3 L3.length e3] 45 (0, 0))
  rw [World.size_alloc] at hy
  have HY := Lib.hid hy
  have HV1 := Lib.hid (h1.keep hB0)
  have HV2 := Lib.hid (h2.keep hB0)
  have HV3 := Lib.hid (h3.keep hB0)
  have HK1 := Lib.hid (k1.keep hB0)
  have HK2 := Lib.hid (k2.keep hB0)
  have HK3 := Lib.hid (k3.keep hB0)
  have HB := Lib.hid hB0
  clear hB0 hy h1 h2 h3 k1 k2 k3
  go_enter Try.func22, Try.ntmps22
  go_wp2_with fail
  with_reducible refine (eqLnS_same A1 B1 c1 e1 L1 _ HV1.out HK1.out m1).mono ?_
  rintro e w1 ⟨rfl, hb⟩
  replace HX := Lib.hid ((hb.block _ (Array.getElem?_eq_some_iff.1 HX.out).1).trans HX.out)
  replace HY := Lib.hid ((hb.block _ (Array.getElem?_eq_some_iff.1 HY.out).1).trans HY.out)
  replace HV2 := Lib.hid (HV2.out.keep hb)
  replace HV3 := Lib.hid (HV3.out.keep hb)
  replace HK2 := Lib.hid (HK2.out.keep hb)
  replace HK3 := Lib.hid (HK3.out.keep hb)
  replace HB := Lib.hid (bkeep2 HB.out hb)
  clear hb
  have d0 := cellS HX.out 0
  have d1 := cellS HX.out 1
  have d2 := cellS HX.out 2
  have f0 := cellS HY.out 0
  have f1 := cellS HY.out 1
  have f2 := cellS HY.out 2
  go_wp2_with fail
  with_reducible refine (eqLnS_same A2 B2 c2 e2 L2 _ HV2.out HK2.out m2).mono ?_
  rintro e w2 ⟨rfl, hb⟩
  clear d0 d1 d2 f0 f1 f2
  replace HX := Lib.hid ((hb.block _ (Array.getElem?_eq_some_iff.1 HX.out).1).trans HX.out)
  replace HY := Lib.hid ((hb.block _ (Array.getElem?_eq_some_iff.1 HY.out).1).trans HY.out)
  replace HV3 := Lib.hid (HV3.out.keep hb)
  replace HK3 := Lib.hid (HK3.out.keep hb)
  replace HB := Lib.hid (bkeep2 HB.out hb)
  clear hb
  have d0 := cellS HX.out 0
  have d1 := cellS HX.out 1
  have d2 := cellS HX.out 2
  have f0 := cellS HY.out 0
  have f1 := cellS HY.out 1
  have f2 := cellS HY.out 2
  go_wp2_with fail
  with_reducible refine (eqCeS_same A3 B3 c3 e3 L3 _ HV3.out HK3.out m3).mono ?_
  rintro e w3 ⟨rfl, hb⟩
  clear d0 d1 d2 f0 f1 f2
  replace HB := Lib.hid (bkeep2 HB.out hb)
  clear hb
  go_wp2
  go_ret
  exact ⟨rfl, HB.out⟩
end Go.Proofs.Ytjdjahckdgbkbac
end
section
namespace Go.Proofs.Ytjdjahckdgbkbac
open Go.RowKit
set_option linter.unusedVariables false
set_option maxHeartbeats 1000000
attribute [local go_sem] growUpon_value growUpon_skip growUpon_enter
structure Sp where
  sa : Int
  many : Int
  need : Int
def valsSp (p : Sp) : List Value := [.int .i64 p.sa, .int .i64 p.many, .int .i64 p.need]
/-- a slice that reads as this list -/
structure SpV (w : World) (A : Option Addr) (L : List Sp) : Prop where
  cells : 0 < L.length → ∃ b off, A = some ⟨b, off, none⟩ ∧ b < w.heap.size ∧ ∀ i p, L[i]? = some p → w.cell? ⟨b, off + i * 3, none⟩ = some (.int .i64 p.sa) ∧ w.cell? ⟨b, off + i * 3 + 1, none⟩ = some (.int .i64 p.many) ∧ w.cell? ⟨b, off + i * 3 + 2, none⟩ = some (.int .i64 p.need)
theorem SpV.keep {w w' : World} {A : Option Addr} {L : List Sp} (h : SpV w A L) (hb : Below w.heap.size w w') : SpV w' A L :=
  ⟨fun h0 => let ⟨b, off, e, hl, hp⟩ := h.cells h0; ⟨b, off, e, Nat.lt_of_lt_of_le hl hb.size, fun i p hi => by
    obtain ⟨c0, c1, c2⟩ := hp i p hi
    exact ⟨(hb.cell (p := ⟨b, off + i * 3, none⟩) hl).trans c0, (hb.cell (p := ⟨b, off + i * 3 + 1, none⟩) hl).trans c1, (hb.cell (p := ⟨b, off + i * 3 + 2, none⟩) hl).trans c2⟩⟩⟩
theorem SpV.nil (w : World) (A : Option Addr) : SpV w A [] := ⟨fun h => absurd h (by simp)⟩
/-- what a new block holds -/
def SpB (w : World) (g : Nat) (L : List Sp) : Prop := ∃ cs : Array Value, w.heap[g]? = some (.cells cs 102 (0, 0)) ∧ cs.size = L.length * 3 ∧ ∀ i p, L[i]? = some p → InS cs (i * 3) (valsSp p)
theorem SpB.v {w : World} {g : Nat} {L : List Sp} (h : SpB w g L) : SpV w (some ⟨g, 0, none⟩) L := by
  obtain ⟨cs, hh, hs, hc⟩ := h
  refine ⟨fun _ => ⟨g, 0, rfl, ltS hh, fun i p hp => ?_⟩⟩
  have hi := hc i p hp
  simp only [Nat.zero_add]
  exact ⟨(cellS hh _).trans (hi 0 _ rfl), (cellS hh _).trans (hi 1 _ rfl), (cellS hh _).trans (hi 2 _ rfl)⟩
theorem SpB.lt {w : World} {g : Nat} {L : List Sp} (h : SpB w g L) : g < w.heap.size := by obtain ⟨cs, hh, _⟩ := h; exact ltS hh
theorem SpB.keep {w w' : World} {g : Nat} {L : List Sp} (h : SpB w g L) (hb : Below w.heap.size w w') : SpB w' g L := by
  obtain ⟨cs, hh, hs, hc⟩ := h
  exact ⟨cs, (hb.block g (ltS hh)).trans hh, hs, hc⟩
theorem SpB.but {w w' : World} {g h : Nat} {L : List Sp} (hi : SpB w h L) (hg : w.grownBy w' (some g)) (hne : h ≠ g) : SpB w' h L := by
  obtain ⟨cs, hh, hs, hc⟩ := hi
  exact ⟨cs, (hg.block h (ltS hh) (fun e => hne (Option.some.inj e))).trans hh, hs, hc⟩
theorem madeSp : ∃ f : Nat → Array Value, (∀ n, (f n).size = n * 3) ∧ ∀ (n : Nat) (w : World), n ≤ 1048576 → (Instr.makeSlice 99 (.int .i64 (n : Int)) (.int .i64 (n : Int))).run Try.prog w = .ok (.slice (some ⟨w.heap.size, 0, none⟩) n n) (w.alloc (.cells (f n) 102)) := by
  have hinfo : (Try.prog.info? 102).map (fun i => (i.zero, i.size, i.bytes)) = some (some (.agg #[.int .i64 0, .int .i64 0, .int .i64 0]), 3, 24) := by kernel_rfl
  obtain ⟨i, hi, h1, h2, h3⟩ := info_parts hinfo
  refine ⟨fun n => madeCells (Value.agg #[.int .i64 0, .int .i64 0, .int .i64 0]).cells (n * 3), fun n => size_madeCells _ _, fun n w hn => ?_⟩
  have hr := run_make (P := Try.prog) w 99 102 i _ Try.underlying99 hi h1 .i64 .i64 n n (by omega) (Int.le_refl _) (by rw [h3]; omega) (by omega)
  rw [h2] at hr
  simpa using hr
theorem putSp {w : World} {b : Nat} {cs : Array Value} {T : TypeId} {fz : Nat × Nat} (h : w.heap[b]? = some (.cells cs T fz)) (o : Nat) (p : Sp) :
    ((((w.setCell ⟨b, o, none⟩ (.int .i64 p.sa)).setCell ⟨b, o + 1, none⟩ (.int .i64 p.many)).setCell ⟨b, o + 2, none⟩ (.int .i64 p.need))).heap[b]? = some (.cells (wrAt cs o (valsSp p)) T fz) :=
  putS (putS (putS h _) _) _
theorem putSpb {B b : Nat} {a w : World} (h : Below B a w) (hb : B ≤ b) (o : Nat) (p : Sp) : Below B a ((((w.setCell ⟨b, o, none⟩ (.int .i64 p.sa)).setCell ⟨b, o + 1, none⟩ (.int .i64 p.many)).setCell ⟨b, o + 2, none⟩ (.int .i64 p.need))) :=
  (((h).setCell hb _).setCell hb _).setCell hb _
end Go.Proofs.Ytjdjahckdgbkbac
end
section
set_option linter.unusedVariables false
namespace Go.Proofs.Ytjdjahckdgbkbac
def hpB (x y u v p q : Int) : Bool := decide (x ≤ p ∧ p < x + u ∧ y ≤ q ∧ q < y + v)
theorem hpB_iff {x y u v p q : Int} : hpB x y u v p q = true ↔ (x ≤ p ∧ p < x + u ∧ y ≤ q ∧ q < y + v) := by simp only [hpB, decide_eq_true_eq]
theorem hpB_not {x y u v p q : Int} : hpB x y u v p q = false ↔ ¬ (x ≤ p ∧ p < x + u ∧ y ≤ q ∧ q < y + v) := by unfold hpB; exact decide_eq_false_iff_not
theorem hpB_n1 {x y u v p q : Int} (h : ¬ x ≤ p) : hpB x y u v p q = false := by rw [hpB_not]; omega
theorem hpB_n2 {x y u v p q : Int} (h : ¬ p < x + u) : hpB x y u v p q = false := by rw [hpB_not]; omega
theorem hpB_n3 {x y u v p q : Int} (h : ¬ y ≤ q) : hpB x y u v p q = false := by rw [hpB_not]; omega
theorem hpB_n4 {x y u v p q : Int} (h : ¬ q < y + v) : hpB x y u v p q = false := by rw [hpB_not]; omega
theorem hpB_y {x y u v p q : Int} (h1 : x ≤ p) (h2 : p < x + u) (h3 : y ≤ q) (h4 : q < y + v) : hpB x y u v p q = true := by rw [hpB_iff]; omega
theorem rng_n {p a b : Int} (h1 : ¬ p < b) : rng p a (b - 1) = false := by rw [rng_not]; omega
theorem hpB_sp {x y u v p q : Int} : hpB x y u v p q = (rng p x (x + u - 1) && rng q y (y + v - 1)) := by
  rw [Bool.eq_iff_iff, hpB_iff, Bool.and_eq_true, rng_iff, rng_iff]; omega
end Go.Proofs.Ytjdjahckdgbkbac
namespace Go.Proofs.Ytjdjahckdgbkbac
def meetB (x y u v x' y' u' v' : Int) : Bool := vr x y u v && vr x' y' u' v' && hitB x y u v x' y' u' v'
theorem meetB_yes {x y u v x' y' u' v' : Int} (h : meetB x y u v x' y' u' v' = true) : vr x y u v = true ∧ vr x' y' u' v' = true ∧ hitB x y u v x' y' u' v' = true := by
  simp only [meetB, Bool.and_eq_true] at h; exact ⟨h.1.1, h.1.2, h.2⟩
theorem meetB_hit {x y u v x' y' u' v' : Int} (h : meetB x y u v x' y' u' v' = false) (h1 : vr x y u v = true) (h2 : vr x' y' u' v' = true) : hitB x y u v x' y' u' v' = false := by
  simpa [meetB, h1, h2] using h
def covB (x y u v x' y' u' v' : Int) : Bool := vr (mn x x') (mn y y') (mx (x + u) (x' + u') - mn x x') (mx (y + v) (y' + v') - mn y y')
def coverB (x y u v x' y' u' v' : Int) : Bool := vr x y u v && vr x' y' u' v' && covB x y u v x' y' u' v'
theorem coverB_yes {x y u v x' y' u' v' : Int} (h : coverB x y u v x' y' u' v' = true) : vr x y u v = true ∧ vr x' y' u' v' = true ∧ vr (mn x x') (mn y y') (mx (x + u) (x' + u') - mn x x') (mx (y + v) (y' + v') - mn y y') = true := by
  simp only [coverB, Bool.and_eq_true] at h; exact ⟨h.1.1, h.1.2, h.2⟩
theorem coverB_no {x y u v x' y' u' v' : Int} (h : coverB x y u v x' y' u' v' = false) (h1 : vr x y u v = true) (h2 : vr x' y' u' v' = true) : vr (mn x x') (mn y y') (mx (x + u) (x' + u') - mn x x') (mx (y + v) (y' + v') - mn y y') = false := by
  simpa [coverB, covB, h1, h2] using h
theorem cover_bds {x y u v x' y' u' v' : Int} (h1 : vr x y u v = true) (h2 : vr x' y' u' v' = true) : -1000 ≤ mn x x' ∧ mn x x' ≤ 1000 ∧ -1000 ≤ mn y y' ∧ mn y y' ≤ 1000 ∧ -1000 ≤ mx (x + u) (x' + u') ∧ mx (x + u) (x' + u') ≤ 1000 ∧ -1000 ≤ mx (y + v) (y' + v') ∧ mx (y + v) (y' + v') ≤ 1000 := by
  rw [vr_iff] at h1 h2
  obtain ⟨m1, m2⟩ := mn_bd (a := x) (b := x') (-1000) 1000 (by omega) (by omega) (by omega) (by omega)
  obtain ⟨m3, m4⟩ := mn_bd (a := y) (b := y') (-1000) 1000 (by omega) (by omega) (by omega) (by omega)
  obtain ⟨m5, m6⟩ := mx_bd (a := x + u) (b := x' + u') (-1000) 1000 (by omega) (by omega) (by omega) (by omega)
  obtain ⟨m7, m8⟩ := mx_bd (a := y + v) (b := y' + v') (-1000) 1000 (by omega) (by omega) (by omega) (by omega)
  exact ⟨m1, m2, m3, m4, m5, m6, m7, m8⟩
def insB (x y u v x' y' u' v' : Int) : Bool := decide (x ≤ x' ∧ y ≤ y' ∧ x' + u' ≤ x + u ∧ y' + v' ≤ y + v)
theorem insB_iff {x y u v x' y' u' v' : Int} : insB x y u v x' y' u' v' = true ↔ (x ≤ x' ∧ y ≤ y' ∧ x' + u' ≤ x + u ∧ y' + v' ≤ y + v) := by simp only [insB, decide_eq_true_eq]
theorem insB_not {x y u v x' y' u' v' : Int} : insB x y u v x' y' u' v' = false ↔ ¬ (x ≤ x' ∧ y ≤ y' ∧ x' + u' ≤ x + u ∧ y' + v' ≤ y + v) := by unfold insB; exact decide_eq_false_iff_not
theorem holds_eq {x y u v x' y' u' v' : Int} (h1 : vr x y u v = true) (h2 : vr x' y' u' v' = true) :
    (mn x x' = x ∧ mn y y' = y ∧ mx (x + u) (x' + u') - mn x x' = u ∧ mx (y + v) (y' + v') - mn y y' = v) ↔ (x ≤ x' ∧ y ≤ y' ∧ x' + u' ≤ x + u ∧ y' + v' ≤ y + v) := by
  have := mn_spec x x'; have := mn_spec y y'; have := mx_spec (x + u) (x' + u'); have := mx_spec (y + v) (y' + v')
  omega
end Go.Proofs.Ytjdjahckdgbkbac
end
section
set_option linter.unusedVariables false
namespace Go.Proofs.Ytjdjahckdgbkbac
def mvB (x y u v p q : Int) : Bool := vr x y u v && rng p (-1000) 1000 && rng q (-1000) 1000 && vr (x + p) (y + q) u v
theorem mvB_yes {x y u v p q : Int} (h : mvB x y u v p q = true) : vr x y u v = true ∧ rng p (-1000) 1000 = true ∧ rng q (-1000) 1000 = true ∧ vr (x + p) (y + q) u v = true := by
  simp only [mvB, Bool.and_eq_true] at h; exact ⟨h.1.1.1, h.1.1.2, h.1.2, h.2⟩
theorem mvB_no {x y u v p q : Int} (h : mvB x y u v p q = false) (h1 : vr x y u v = true) (h2 : rng p (-1000) 1000 = true) (h3 : rng q (-1000) 1000 = true) : vr (x + p) (y + q) u v = false := by
  simpa [mvB, h1, h2, h3] using h
def inB (x y u v p q : Int) : Bool := vr x y u v && rng p 0 10 && rng q 0 10
theorem inB_yes {x y u v p q : Int} (h : inB x y u v p q = true) : vr x y u v = true ∧ rng p 0 10 = true ∧ rng q 0 10 = true := by
  simp only [inB, Bool.and_eq_true] at h; exact ⟨h.1.1, h.1.2, h.2⟩
theorem inB_no {x y u v p q : Int} (h : inB x y u v p q = false) (h1 : vr x y u v = true) (h2 : rng p 0 10 = true) : rng q 0 10 = false := by
  simpa [inB, h1, h2] using h
theorem mx_comm (a b : Int) : mx a b = mx b a := by unfold mx; split <;> split <;> omega
theorem in_bds {x y u v p q : Int} (h : inB x y u v p q = true) : 0 ≤ mn p (u / 2) ∧ mn p (u / 2) ≤ 10 ∧ 0 ≤ mn q (v / 2) ∧ mn q (v / 2) ≤ 10 ∧ 0 ≤ mx (u - 2 * p) 0 ∧ mx (u - 2 * p) 0 ≤ 400 ∧ 0 ≤ mx (v - 2 * q) 0 ∧ mx (v - 2 * q) 0 ≤ 400 := by
  obtain ⟨h1, h2, h3⟩ := inB_yes h
  rw [vr_iff] at h1; rw [rng_iff] at h2 h3
  have := mn_spec p (u / 2); have := mn_spec q (v / 2); have := mx_spec (u - 2 * p) 0; have := mx_spec (v - 2 * q) 0
  omega
def anB (x y u v p q k : Int) : Bool := vr x y u v && rng p 0 400 && rng q 0 400 && rng k 0 8
theorem anB_yes {x y u v p q k : Int} (h : anB x y u v p q k = true) : vr x y u v = true ∧ rng p 0 400 = true ∧ rng q 0 400 = true ∧ rng k 0 8 = true := by
  simp only [anB, Bool.and_eq_true] at h; exact ⟨h.1.1.1, h.1.1.2, h.1.2, h.2⟩
theorem anB_no {x y u v p q k : Int} (h : anB x y u v p q k = false) (h1 : vr x y u v = true) (h2 : rng p 0 400 = true) (h3 : rng q 0 400 = true) : rng k 0 8 = false := by
  simpa [anB, h1, h2, h3] using h
def ctB (x y u v s n : Int) : Bool := vr x y u v && rng s 0 3 && rng n 0 400
theorem ctB_yes {x y u v s n : Int} (h : ctB x y u v s n = true) : vr x y u v = true ∧ rng s 0 3 = true ∧ rng n 0 400 = true := by
  simp only [ctB, Bool.and_eq_true] at h; exact ⟨h.1.1, h.1.2, h.2⟩
theorem ctB_no {x y u v s n : Int} (h : ctB x y u v s n = false) (h1 : vr x y u v = true) (h2 : rng s 0 3 = true) : rng n 0 400 = false := by
  simpa [ctB, h1, h2] using h
end Go.Proofs.Ytjdjahckdgbkbac
namespace Go.Proofs.Ytjdjahckdgbkbac
theorem area_bds {x y u v : Int} (h : vr x y u v = true) : 0 ≤ u * v ∧ u * v ≤ 160000 := by
  obtain ⟨a1, a2, a3, a4, _⟩ := vr_iff.1 h
  exact ⟨Int.mul_nonneg a1 a3, Int.le_trans (Int.mul_le_mul a2 a4 a3 (by omega)) (by omega)⟩
end Go.Proofs.Ytjdjahckdgbkbac
namespace Go.Proofs.Ytjdjahckdgbkbac
theorem prod_bds {a b : Int} (h1 : 0 ≤ a) (h2 : a ≤ 400) (h3 : 0 ≤ b) (h4 : b ≤ 2) : 0 ≤ a * b ∧ a * b ≤ 800 :=
  ⟨Int.mul_nonneg h1 h3, Int.le_trans (Int.mul_le_mul h2 h4 h3 (by omega)) (by omega)⟩
theorem an_bds {x y u v p q k : Int} (h : anB x y u v p q k = true) : 0 ≤ mn p u ∧ mn p u ≤ u ∧ 0 ≤ mn q v ∧ mn q v ≤ v ∧ 0 ≤ k % 3 ∧ k % 3 ≤ 2 ∧ 0 ≤ k / 3 ∧ k / 3 ≤ 2 ∧ 0 ≤ (u - mn p u) * (k % 3) ∧ (u - mn p u) * (k % 3) ≤ 800 ∧ 0 ≤ (v - mn q v) * (k / 3) ∧ (v - mn q v) * (k / 3) ≤ 800 := by
  obtain ⟨h1, h2, h3, h4⟩ := anB_yes h
  rw [vr_iff] at h1; rw [rng_iff] at h2 h3 h4
  have g1 := mn_spec p u; have g2 := mn_spec q v
  have e1 := prod_bds (a := u - mn p u) (b := k % 3) (by omega) (by omega) (by omega) (by omega)
  have e2 := prod_bds (a := v - mn q v) (b := k / 3) (by omega) (by omega) (by omega) (by omega)
  omega
end Go.Proofs.Ytjdjahckdgbkbac
end
section
namespace Go.Proofs.Ytjdjahckdgbkbac
open Go.RowKit
set_option linter.unusedVariables false
set_option maxHeartbeats 1000000
/-- the sum of a list -/
def sumI : List Int → Int
  | [] => 0
  | x :: t => x + sumI t
theorem sumI_append : ∀ (A B : List Int), sumI (A ++ B) = sumI A + sumI B
  | [], B => by simp [sumI]
  | x :: t, B => by simp [sumI, sumI_append t B]; omega
theorem sumI_snoc {L : List Int} {k : Nat} {x : Int} (h : L[k]? = some x) : sumI (L.take (k + 1)) = sumI (L.take k) + x := by
  obtain ⟨hk, e⟩ := List.getElem?_eq_some_iff.1 h
  rw [List.take_succ_eq_append_getElem hk, sumI_append, e]
  simp [sumI]
theorem sumI_bd {lo hi : Int} : ∀ {L : List Int}, (∀ x ∈ L, lo ≤ x ∧ x ≤ hi) → lo * L.length ≤ sumI L ∧ sumI L ≤ hi * L.length
  | [], _ => by simp [sumI]
  | x :: t, h => by
    have h1 := sumI_bd (L := t) (fun q hq => h q (List.mem_cons_of_mem _ hq))
    have h2 := h x List.mem_cons_self
    simp only [sumI, List.length_cons]
    have e1 : lo * ((t.length + 1 : Nat) : Int) = lo * t.length + lo := by rw [Int.natCast_succ, Int.mul_add, Int.mul_one]
    have e2 : hi * ((t.length + 1 : Nat) : Int) = hi * t.length + hi := by rw [Int.natCast_succ, Int.mul_add, Int.mul_one]
    rw [e1, e2]; omega
/-- all numbers are small -/
def Smal (M : Int) (L : List Int) : Prop := ∀ k, -M ≤ sumI (L.take k) ∧ sumI (L.take k) ≤ M
theorem smal_of {b M : Int} {L : List Int} (h : ∀ x ∈ L, -b ≤ x ∧ x ≤ b) (hb : 0 ≤ b) (hl : b * L.length ≤ M) : Smal M L := fun k => by
  have := sumI_bd (L := L.take k) (fun x hx => h x (List.mem_of_mem_take hx))
  have hk : ((L.take k).length : Int) ≤ L.length := by rw [List.length_take]; omega
  have h1 : b * ((L.take k).length : Int) ≤ b * L.length := Int.mul_le_mul_of_nonneg_left hk hb
  have h2 : -b * ((L.take k).length : Int) = -(b * ((L.take k).length : Int)) := by rw [Int.neg_mul]
  rw [h2] at this
  omega
/-- a slice that reads as this list of numbers -/
structure NV (w : World) (A : Option Addr) (L : List Int) : Prop where
  cells : 0 < L.length → ∃ b off, A = some ⟨b, off, none⟩ ∧ b < w.heap.size ∧ ∀ i x, L[i]? = some x → w.cell? ⟨b, off + i, none⟩ = some (.int .i64 x)
theorem NV.keep {w w' : World} {A : Option Addr} {L : List Int} (h : NV w A L) (hb : Below w.heap.size w w') : NV w' A L :=
  ⟨fun h0 => let ⟨b, off, e, hl, hp⟩ := h.cells h0; ⟨b, off, e, Nat.lt_of_lt_of_le hl hb.size, fun i x hx => (hb.cell (p := ⟨b, off + i, none⟩) hl).trans (hp i x hx)⟩⟩
theorem NV.nil (w : World) (A : Option Addr) : NV w A [] := ⟨fun h => absurd h (by simp)⟩
/-- a part of it, from one index up to another -/
theorem NV.sub {w : World} {b off : Nat} {L : List Int} (hb : b < w.heap.size) (h : ∀ i x, L[i]? = some x → w.cell? ⟨b, off + i, none⟩ = some (.int .i64 x)) (i j : Nat) : NV w (some ⟨b, off + i, none⟩) ((L.drop i).take j) :=
  ⟨fun _ => ⟨b, off + i, rfl, hb, fun k x hx => by
    rw [List.getElem?_take] at hx
    split at hx
    · rw [List.getElem?_drop] at hx
      have := h (i + k) x hx
      rwa [← Nat.add_assoc] at this
    · cases hx⟩⟩
def ivals (L : List Int) : Array Value := (L.map (Value.int .i64)).toArray
/-- a block of numbers -/
def IB (w : World) (g : Nat) (L : List Int) : Prop := w.heap[g]? = some (.cells (ivals L) 3 (0, 0))
theorem IB.lt {w : World} {g : Nat} {L : List Int} (h : IB w g L) : g < w.heap.size := (Array.getElem?_eq_some_iff.1 h).1
theorem IB.cell {w : World} {g i : Nat} {L : List Int} {x : Int} (h : IB w g L) (hx : L[i]? = some x) : w.cell? ⟨g, i, none⟩ = some (.int .i64 x) := by
  have h' : w.heap[g]? = some (.cells (ivals L) 3 (0, 0)) := h
  simp [World.cell?, h', ivals, hx]
theorem IB.frozen {w : World} {g : Nat} {L : List Int} (h : IB w g L) (i : Nat) : w.frozen? ⟨g, i, none⟩ = false := by
  have h' : w.heap[g]? = some (.cells (ivals L) 3 (0, 0)) := h
  simp [World.frozen?, h']
theorem IB.keep {w w' : World} {g : Nat} {L : List Int} (h : IB w g L) (hb : Below w.heap.size w w') : IB w' g L := (hb.block g h.lt).trans h
theorem IB.set {w : World} {g : Nat} {L : List Int} (h : IB w g L) (i : Nat) (x : Int) : IB (w.setCell ⟨g, i, none⟩ (.int .i64 x)) g (L.set i x) := by
  have h' : w.heap[g]? = some (.cells (ivals L) 3 (0, 0)) := h
  show _ = _
  simp [World.setCell, Array.getElem?_modify, h', ivals, List.map_set]
theorem IB.nv {w : World} {g : Nat} {L : List Int} (h : IB w g L) : NV w (some ⟨g, 0, none⟩) L :=
  ⟨fun _ => ⟨g, 0, rfl, h.lt, fun i x hx => by rw [Nat.zero_add]; exact h.cell hx⟩⟩
theorem madeI : ∀ (n : Nat) (w : World), n ≤ 1048576 → (Instr.makeSlice 32 (.int .i64 (n : Int)) (.int .i64 (n : Int))).run Try.prog w = .ok (.slice (some ⟨w.heap.size, 0, none⟩) n n) (w.alloc (.cells (ivals (List.replicate n 0)) 3)) := by
  intro n w hn
  have hinfo : (Try.prog.info? 3).map (fun i => (i.zero, i.size, i.bytes)) = some (some (.int .i64 0), 1, 8) := by kernel_rfl
  obtain ⟨i, hi, h1, h2, h3⟩ := info_parts hinfo
  have hr := run_make (P := Try.prog) w 32 3 i _ Try.underlying32 hi h1 .i64 .i64 n n (by omega) (Int.le_refl _) (by rw [h3]; omega) (by omega)
  rw [h2] at hr
  have e : madeCells (Value.int .i64 0).cells (n * 1) = ivals (List.replicate n 0) := by
    apply Array.ext
    · rw [size_madeCells]; simp [ivals]
    · intro i h1 h2
      simp [madeCells, ivals, Value.cells, Nat.mod_one]
  rw [Int.toNat_natCast, e] at hr
  simpa using hr
theorem makeI_b (n : Nat) (w : World) : IB (w.alloc (.cells (ivals (List.replicate n 0)) 3)) w.heap.size (List.replicate n 0) := by
  show (w.heap.push _)[w.heap.size]? = _
  simp
set_option maxRecDepth 100000 in
theorem sum_v (A : Option Addr) (c : Nat) (L : List Int) (w : World) (h : NV w A L) (hL : L.length ≤ 1048576) (hM : Smal 1000000000000000 L) :
    Calls Try.prog 84 #[.slice A L.length c] w fun e w' => e = .returned (.int .i64 (sumI L)) ∧ w = w' := by
  have HM := Lib.hid hM
  clear hM
  go_enter Try.func84, Try.ntmps84
  go_wp2_with fail
  go_loop [3, 8] (fun s i => ∃ k : Nat, k ≤ L.length ∧ i = .int .i64 k ∧ s = .int .i64 (sumI (L.take k))) (fun _ i => L.length - (intOf i).toNat)
  case atStart => exact ⟨0, by omega, rfl, rfl⟩
  case round =>
    obtain ⟨k, hk, rfl, rfl⟩ := hrel
    by_cases hlt : k < L.length
    · have hd : decide ((k : Int) < (L.length : Int)) = true := by simpa using hlt
      obtain ⟨b, off, rfl, hb, hp⟩ := h.cells (by omega)
      have hget : L[k]? = some L[k] := List.getElem?_eq_getElem hlt
      have c0 := hp k _ hget
      generalize hx : L[k] = x at *
      have hs := sumI_snoc hget
      have b1 := HM.out k
      have b2 := HM.out (k + 1)
      rw [hs] at b2
      obtain ⟨S, hS⟩ : ∃ S, sumI (L.take k) = S := ⟨_, rfl⟩
      rw [hS] at b1 b2 hs
      rw [hS]
      have HS := Lib.hid hs
      clear hs hS hget hx hp
      go_wp2
      go_round
      case rel => exact ⟨k + 1, by omega, by go_num, by rw [HS.out]⟩
      case measure => simp [intOf]; omega
    · have hd : decide ((k : Int) < (L.length : Int)) = false := by simp; omega
      have he : L.take k = L := List.take_of_length_le (by omega)
      rw [he]
      clear he
      go_wp2
      go_ret
      exact ⟨rfl, rfl⟩
set_option maxRecDepth 100000 in
theorem total_v (A : Option Addr) (c : Nat) (L : List Int) (w : World) (h : NV w A L) (hL : L.length ≤ 1048576) (hM : Smal 1000000000000000 L) :
    Calls Try.prog 85 #[.slice A L.length c] w fun e w' => e = .returned (.int .i64 (sumI L)) ∧ w = w' := by
  have HM := Lib.hid hM
  clear hM
  go_enter Try.func85, Try.ntmps85
  go_wp2_with fail
  go_loop [3, 4] (fun s i => ∃ k : Nat, k ≤ L.length ∧ i = .int .i64 k ∧ s = .int .i64 (sumI (L.take k))) (fun _ i => L.length - (intOf i).toNat)
  case atStart => exact ⟨0, by omega, rfl, rfl⟩
  case round =>
    obtain ⟨k, hk, rfl, rfl⟩ := hrel
    by_cases hlt : k < L.length
    · have hd : decide ((k : Int) < (L.length : Int)) = true := by simpa using hlt
      obtain ⟨b, off, rfl, hb, hp⟩ := h.cells (by omega)
      have hget : L[k]? = some L[k] := List.getElem?_eq_getElem hlt
      have c0 := hp k _ hget
      generalize hx : L[k] = x at *
      have hs := sumI_snoc hget
      have b1 := HM.out k
      have b2 := HM.out (k + 1)
      rw [hs] at b2
      obtain ⟨S, hS⟩ : ∃ S, sumI (L.take k) = S := ⟨_, rfl⟩
      rw [hS] at b1 b2 hs
      rw [hS]
      have HS := Lib.hid hs
      clear hs hS hget hx hp
      go_wp2
      go_round
      case rel => exact ⟨k + 1, by omega, by go_num, by rw [HS.out]⟩
      case measure => simp [intOf]; omega
    · have hd : decide ((k : Int) < (L.length : Int)) = false := by simp; omega
      have he : L.take k = L := List.take_of_length_le (by omega)
      rw [he]
      clear he
      go_wp2
      go_ret
      exact ⟨rfl, rfl⟩
end Go.Proofs.Ytjdjahckdgbkbac
end
section
namespace Go.Proofs.Ytjdjahckdgbkbac
set_option linter.unusedVariables false
/-- each part, without a rest -/
def baseM (n S : Int) (ws : List Int) : List Int := ws.map (fun x => n * x / S)
/-- the first ones that have a weight get 1 more, as many as are missing -/
def onesM : Int → List Int → List Int → List Int
  | m, x :: ws, b :: bs => if 0 < x ∧ 0 < m then (b + 1) :: onesM (m - 1) ws bs else b :: onesM m ws bs
  | _, _, bs => bs
def spreadM (n : Int) (ws : List Int) : List Int :=
  if sumI ws = 0 then (List.replicate ws.length 0).set (ws.length - 1) n
  else onesM (n - sumI (baseM n (sumI ws) ws)) ws (baseM n (sumI ws) ws)
theorem baseM_len (n S : Int) (ws : List Int) : (baseM n S ws).length = ws.length := by simp [baseM]
theorem onesM_len : ∀ {m : Int} {ws bs : List Int}, (onesM m ws bs).length = bs.length
  | m, [], bs => by simp [onesM]
  | m, x :: ws, [] => by simp [onesM]
  | m, x :: ws, b :: bs => by
    unfold onesM
    split <;> simp [onesM_len]
theorem spreadM_len {n : Int} {ws : List Int} : (spreadM n ws).length = ws.length := by
  unfold spreadM
  split
  · simp
  · rw [onesM_len, baseM_len]
theorem onesM_zero : ∀ {m : Int} {ws bs : List Int}, m ≤ 0 → onesM m ws bs = bs
  | m, [], bs, h => by simp [onesM]
  | m, x :: ws, [], h => by simp [onesM]
  | m, x :: ws, b :: bs, h => by
    unfold onesM
    rw [if_neg (by omega), onesM_zero h]
/-- how many have a weight -/
def cntP : List Int → Int
  | [] => 0
  | x :: t => (if 0 < x then 1 else 0) + cntP t
theorem cntP_bd : ∀ ws : List Int, 0 ≤ cntP ws ∧ cntP ws ≤ ws.length
  | [] => by simp [cntP]
  | x :: t => by
    have := cntP_bd t
    simp only [cntP, List.length_cons]
    split <;> omega
theorem sumI_nonneg {L : List Int} (h : ∀ x ∈ L, 0 ≤ x) : 0 ≤ sumI L := by
  induction L with
  | nil => exact Int.le_refl _
  | cons x t ih =>
    have h1 := h x List.mem_cons_self
    have h2 := ih (fun q hq => h q (List.mem_cons_of_mem _ hq))
    simp only [sumI]; omega
theorem mul_sum (n : Int) : ∀ ws : List Int, n * sumI ws = sumI (ws.map (fun x => n * x))
  | [] => by simp [sumI]
  | x :: t => by simp only [sumI, List.map_cons, Int.mul_add, mul_sum n t]
/-- what the parts without a rest leave: at least 0, and less than the positive weights are many, or 0 -/
theorem left_bd {n S : Int} (hn : 0 ≤ n) (hS : 0 < S) : ∀ {ws : List Int}, (∀ x ∈ ws, 0 ≤ x) → 0 ≤ n * sumI ws - S * sumI (baseM n S ws) ∧ n * sumI ws - S * sumI (baseM n S ws) ≤ (S - 1) * cntP ws
  | [], _ => by simp [sumI, baseM, cntP]
  | x :: t, h => by
    have ih := left_bd hn hS (ws := t) (fun q hq => h q (List.mem_cons_of_mem _ hq))
    have hx := h x List.mem_cons_self
    have e := Int.mul_ediv_add_emod (n * x) S
    have r0 := Int.emod_nonneg (n * x) (show S ≠ 0 by omega)
    have r1 := Int.emod_lt_of_pos (n * x) hS
    have eb : sumI (baseM n S (x :: t)) = n * x / S + sumI (baseM n S t) := rfl
    rw [eb]
    simp only [sumI, cntP, Int.mul_add]
    generalize n * x / S = q at *
    generalize (n * x) % S = r at *
    generalize n * sumI t = u at *
    generalize S * sumI (baseM n S t) = v at *
    generalize (S - 1) * cntP t = z at *
    by_cases hp : 0 < x
    · simp only [if_pos hp, Int.mul_one]
      omega
    · have hx0 : x = 0 := by omega
      subst hx0
      simp only [Int.mul_zero] at e ⊢
      simp only [Int.lt_irrefl, if_false, Int.mul_zero]
      have hsq : S * q = 0 ∨ S * q ≠ 0 := by omega
      have hr : r = 0 := by
        have : S * q + r = 0 := e
        rcases Int.lt_or_le q 0 with hq | hq
        · have : S * q ≤ S * (-1) := Int.mul_le_mul_of_nonneg_left (by omega) (by omega)
          omega
        · have : 0 ≤ S * q := Int.mul_nonneg (by omega) hq
          omega
      omega
theorem miss_bd {n : Int} {ws : List Int} (hn : 0 ≤ n) (h : ∀ x ∈ ws, 0 ≤ x) (hS : sumI ws ≠ 0) : 0 ≤ n - sumI (baseM n (sumI ws) ws) ∧ n - sumI (baseM n (sumI ws) ws) ≤ cntP ws := by
  have h0 := sumI_nonneg h
  have hS' : 0 < sumI ws := by omega
  obtain ⟨a1, a2⟩ := left_bd hn hS' h
  have hc := (cntP_bd ws).1
  generalize sumI (baseM n (sumI ws) ws) = B at *
  generalize hs : sumI ws = S at *
  have e : n * S - S * B = S * (n - B) := by rw [Int.mul_sub, Int.mul_comm n S]
  rw [e] at a1 a2
  have e2 : (S - 1) * cntP ws = S * cntP ws - cntP ws := by rw [Int.sub_mul, Int.one_mul]
  rw [e2] at a2
  generalize cntP ws = C at *
  constructor
  · rcases Int.lt_or_le (n - B) 0 with hq | hq
    · have : S * (n - B) ≤ S * (-1) := Int.mul_le_mul_of_nonneg_left (by omega) (by omega)
      omega
    · exact hq
  · rcases Int.lt_or_le C (n - B) with hq | hq
    · have : S * (C + 1) ≤ S * (n - B) := Int.mul_le_mul_of_nonneg_left (by omega) (by omega)
      rw [Int.mul_add, Int.mul_one] at this
      omega
    · exact hq
theorem base_bd {n S x : Int} (hn : 0 ≤ n) (hS : 0 < S) (h0 : 0 ≤ x) (hx : x ≤ S) : 0 ≤ n * x / S ∧ n * x / S ≤ n := by
  refine ⟨Int.ediv_nonneg (Int.mul_nonneg hn h0) (by omega), ?_⟩
  have h1 : n * x ≤ n * S := Int.mul_le_mul_of_nonneg_left hx hn
  have h2 := Int.ediv_le_ediv hS h1
  rwa [Int.mul_ediv_cancel _ (by omega)] at h2
theorem mem_le_sum : ∀ {ws : List Int}, (∀ x ∈ ws, 0 ≤ x) → ∀ x ∈ ws, x ≤ sumI ws
  | [], _, x, hx => by cases hx
  | y :: t, h, x, hx => by
    have h1 := h y List.mem_cons_self
    have h2 := sumI_nonneg (L := t) (fun q hq => h q (List.mem_cons_of_mem _ hq))
    simp only [sumI]
    rcases List.mem_cons.1 hx with rfl | hx
    · omega
    · have := mem_le_sum (ws := t) (fun q hq => h q (List.mem_cons_of_mem _ hq)) x hx
      omega
end Go.Proofs.Ytjdjahckdgbkbac
end
