import Derived.Test.YtpbfbcdidkbjiaaQ01
import Derived.IntWalk
import Derived.Deep.Cut
section
namespace Go.Proofs.Ytpbfbcdidkbjiaa
open Go.RowKit
set_option linter.unusedVariables false
set_option maxHeartbeats 1000000
attribute [local go_sem 5000] run_mx run_mn
attribute [local go_sem] growUpon_value growUpon_skip growUpon_enter
theorem newV (w : World) (o : Obj) : (w.alloc o).heap[w.heap.size]? = some o := by
  show (w.heap.push o)[w.heap.size]? = some o
  simp
theorem newV1 (w : World) (o o' : Obj) : ((w.alloc o).alloc o').heap[w.heap.size + 1]? = some o' := by
  have := newV (w.alloc o) o'; rwa [World.size_alloc] at this
theorem oldV (w : World) (o o' : Obj) : ((w.alloc o).alloc o').heap[w.heap.size]? = some o := (Below.heap_alloc _ o' w.heap.size (by simp)).trans (newV w o)
theorem ltV {w : World} {b : Nat} {o : Obj} (h : w.heap[b]? = some o) : b < w.heap.size := (Array.getElem?_eq_some_iff.1 h).1
theorem cellV {w : World} {b : Nat} {cs : Array Value} {T : TypeId} {fz : Nat × Nat} (h : w.heap[b]? = some (.cells cs T fz)) (i : Nat) : w.cell? ⟨b, i, none⟩ = cs[i]? := by simp [World.cell?, h]
theorem fzV {w : World} {b : Nat} {cs : Array Value} {T : TypeId} (h : w.heap[b]? = some (.cells cs T (0, 0))) (i : Nat) : w.frozen? ⟨b, i, none⟩ = false := by simp [World.frozen?, h]
theorem putV {w : World} {b i : Nat} {cs : Array Value} {T : TypeId} {fz : Nat × Nat} (h : w.heap[b]? = some (.cells cs T fz)) (u : Value) : (w.setCell ⟨b, i, none⟩ u).heap[b]? = some (.cells (cs.setIfInBounds i u) T fz) := by
  simp [World.setCell, Array.getElem?_modify, h]
theorem c3V {w : World} {b : Nat} {a0 a1 a2 : Value} {T : TypeId} {fz : Nat × Nat} (h : w.heap[b]? = some (.cells #[a0, a1, a2] T fz)) :
    w.cell? ⟨b, 0, none⟩ = some a0 ∧ w.cell? ⟨b, 1, none⟩ = some a1 ∧ w.cell? ⟨b, 2, none⟩ = some a2 := ⟨cellV h 0, cellV h 1, cellV h 2⟩
theorem f3V {w : World} {b : Nat} {cs : Array Value} {T : TypeId} (h : w.heap[b]? = some (.cells cs T (0, 0))) : w.frozen? ⟨b, 0, none⟩ = false ∧ w.frozen? ⟨b, 1, none⟩ = false ∧ w.frozen? ⟨b, 2, none⟩ = false :=
  ⟨fzV h 0, fzV h 1, fzV h 2⟩
theorem put3V {w : World} {b : Nat} {a0 a1 a2 : Value} {T : TypeId} {fz : Nat × Nat} (h : w.heap[b]? = some (.cells #[a0, a1, a2] T fz)) (x0 x1 x2 : Value) :
    (((w.setCell ⟨b, 0, none⟩ x0).setCell ⟨b, 1, none⟩ x1).setCell ⟨b, 2, none⟩ x2).heap[b]? = some (.cells #[x0, x1, x2] T fz) := by
  rw [putV (putV (putV h x0) x1) x2]; rfl
theorem put3o {w : World} {b b' : Nat} (h : b' ≠ b) (x0 x1 x2 : Value) :
    (((w.setCell ⟨b, 0, none⟩ x0).setCell ⟨b, 1, none⟩ x1).setCell ⟨b, 2, none⟩ x2).heap[b']? = w.heap[b']? := by
  rw [Below.heap_setCell _ _ _ _ h, Below.heap_setCell _ _ _ _ h, Below.heap_setCell _ _ _ _ h]
theorem put3b {B b : Nat} {a w : World} (h : Below B a w) (hb : B ≤ b) (x0 x1 x2 : Value) : Below B a (((w.setCell ⟨b, 0, none⟩ x0).setCell ⟨b, 1, none⟩ x1).setCell ⟨b, 2, none⟩ x2) :=
  ((h.setCell hb _).setCell hb _).setCell hb _
theorem bpV {P : Program} {f : Func} {R : Ending → World → Prop} {e : Exit} {a : Act} {W : World} (F : World → Prop) (hF : F W) (h : ∀ W0, F W0 → bodyPost P f R e a W0) : bodyPost P f R e a W := h W hF
theorem wp_V {P : Program} {c : Code} {Q : Exit → Act → World → Prop} {a : Act} {W : World} (F : World → Prop) (hF : F W) (h : ∀ W0, F W0 → c.wp P Q a W0) : c.wp P Q a W := h W hF
theorem nearest_v (n a b : Int) (w : World) : Calls Try.prog 35 #[.int .i64 n, .int .i64 a, .int .i64 b] w fun e w' => e = .returned (.int .i64 (neV n a b)) ∧ Below w.heap.size w w' := by
  go_enter Try.func35, Try.ntmps35
  go_wp2
  go_ret
  exact ⟨ret_int rfl, (by repeat (first | with_reducible exact Below.refl _ _ | with_reducible assumption | with_reducible refine balloc ?_ | (with_reducible refine bset ?_ ?_; rotate_left; ((try dsimp only); omega)) | refine bkeep2 ?_ (by assumption) | with_reducible refine Below.drew ?_))⟩
set_option maxRecDepth 100000 in
theorem from_v (t p f n : Int) (w : World) (h : -1000 ≤ t ∧ t ≤ 1000) (h' : -1000 ≤ p ∧ p ≤ 1000) : Calls Try.prog 31 #[.agg #[.int .i64 (t), .int .i64 (p), .int .i64 (f)], .int .i64 n] w fun e w' => e = .returned (.agg #[.int .i64 (t), .int .i64 (p), .int .i64 (frV t p n)]) ∧ Below w.heap.size w w' := by
  go_enter Try.func31, Try.ntmps31
  go_upto_region 1 with (fail)
  refine wp_V (fun W => W.heap[w.heap.size]? = some (.cells #[.int .i64 (t), .int .i64 (p), .int .i64 (f)] 25 (0, 0)) ∧ W.heap[w.heap.size + 1]? = some (.cells #[.int .i64 (0), .int .i64 (0), .int .i64 (0)] 25 (0, 0)) ∧ Below w.heap.size w W) ⟨oldV _ _ _, newV1 _ _ _, balloc (balloc (Below.refl _ _))⟩ ?_
  rintro w0 ⟨hx, hy, hB⟩
  have HX := Lib.hid hx
  have HY := Lib.hid hy
  have HB := Lib.hid hB
  have hl0 := ltV hy
  clear hx hy hB
  obtain ⟨c0, c1, c2⟩ := c3V HX.out
  obtain ⟨d0, d1, d2⟩ := c3V HY.out
  obtain ⟨f0, f1, f2⟩ := f3V HX.out
  obtain ⟨g0, g1, g2⟩ := f3V HY.out
  go_wp2_with fail
  with_reducible refine (viewEnd_v _ _ _ _ h h').mono ?_
  rintro e w1 ⟨rfl, hb⟩
  clear c0 c1 c2 d0 d1 d2 f0 f1 f2 g0 g1 g2
  replace HX := Lib.hid ((hb.block _ (ltV HX.out)).trans HX.out)
  replace HY := Lib.hid ((hb.block _ (ltV HY.out)).trans HY.out)
  replace HB := Lib.hid (bkeep2 HB.out hb)
  have hl1 := 0
  clear hb hl0 hl1
  have hl0 := ltV HY.out
  obtain ⟨c0, c1, c2⟩ := c3V HX.out
  obtain ⟨d0, d1, d2⟩ := c3V HY.out
  obtain ⟨f0, f1, f2⟩ := f3V HX.out
  obtain ⟨g0, g1, g2⟩ := f3V HY.out
  go_wp2_with fail
  with_reducible refine (nearest_v _ _ _ _).mono ?_
  rintro e w1 ⟨rfl, hb⟩
  clear c0 c1 c2 d0 d1 d2 f0 f1 f2 g0 g1 g2
  replace HX := Lib.hid ((hb.block _ (ltV HX.out)).trans HX.out)
  replace HY := Lib.hid ((hb.block _ (ltV HY.out)).trans HY.out)
  replace HB := Lib.hid (bkeep2 HB.out hb)
  have hl1 := 0
  clear hb hl0 hl1
  have hl0 := ltV HY.out
  obtain ⟨c0, c1, c2⟩ := c3V HX.out
  obtain ⟨d0, d1, d2⟩ := c3V HY.out
  obtain ⟨f0, f1, f2⟩ := f3V HX.out
  obtain ⟨g0, g1, g2⟩ := f3V HY.out
  go_wp2
  refine bpV (fun W => W.heap[w.heap.size + 1]? = some (.cells #[.int .i64 (t), .int .i64 (p), .int .i64 (neV n 0 (enV t p))] 25 (0, 0)) ∧ Below w.heap.size w W) ⟨put3V ((Below.heap_setCell _ ⟨w.heap.size, 2, none⟩ _ _ (by simp)).trans HY.out) (.int .i64 (t)) (.int .i64 (p)) (.int .i64 (neV n 0 (enV t p))), put3b (HB.out.setCell (p := ⟨w.heap.size, 2, none⟩) (Nat.le_refl _) (.int .i64 (neV n 0 (enV t p)))) (by omega) (.int .i64 (t)) (.int .i64 (p)) (.int .i64 (neV n 0 (enV t p)))⟩ ?_
  clear HX HY HB
  clear c0 c1 c2 d0 d1 d2 f0 f1 f2 g0 g1 g2
  rintro W ⟨hy, hB⟩
  obtain ⟨d0, d1, d2⟩ := c3V hy
  exact bodyPost_ret (v := .agg #[.int .i64 (t), .int .i64 (p), .int .i64 (neV n 0 (enV t p))]) (by simp only [results, Try.results31]; go_simp) rfl ⟨rfl, hB⟩
set_option maxRecDepth 100000 in
theorem clamped_v (t p f n : Int) (w : World) (h : -1000 ≤ t ∧ t ≤ 1000) (h' : -1000 ≤ p ∧ p ≤ 1000) : Calls Try.prog 30 #[.agg #[.int .i64 (t), .int .i64 (p), .int .i64 (f)], .int .i64 n] w fun e w' => e = .returned (.agg #[.int .i64 (t), .int .i64 (p), .int .i64 (frV t p n)]) ∧ Below w.heap.size w w' := by
  rw [← frV_model]
  obtain ⟨h1, h2⟩ := h
  obtain ⟨h3, h4⟩ := h'
  go_enter Try.func30, Try.ntmps30
  go_upto_region 1 with (fail)
  refine wp_V (fun W => W.heap[w.heap.size]? = some (.cells #[.int .i64 (t), .int .i64 (p), .int .i64 (f)] 25 (0, 0)) ∧ W.heap[w.heap.size + 1]? = some (.cells #[.int .i64 (0), .int .i64 (0), .int .i64 (0)] 25 (0, 0)) ∧ Below w.heap.size w W) ⟨oldV _ _ _, newV1 _ _ _, balloc (balloc (Below.refl _ _))⟩ ?_
  rintro w0 ⟨hx, hy, hB⟩
  have HX := Lib.hid hx
  have HY := Lib.hid hy
  have HB := Lib.hid hB
  have hl0 := ltV hy
  clear hx hy hB
  obtain ⟨c0, c1, c2⟩ := c3V HX.out
  obtain ⟨d0, d1, d2⟩ := c3V HY.out
  obtain ⟨f0, f1, f2⟩ := f3V HX.out
  obtain ⟨g0, g1, g2⟩ := f3V HY.out
  go_wp2
  refine bpV (fun W => W.heap[w.heap.size + 1]? = some (.cells #[.int .i64 (t), .int .i64 (p), .int .i64 (mx 0 (mn n (t - p)))] 25 (0, 0)) ∧ Below w.heap.size w W) ⟨put3V ((Below.heap_setCell _ ⟨w.heap.size, 2, none⟩ _ _ (by simp)).trans HY.out) (.int .i64 (t)) (.int .i64 (p)) (.int .i64 (mx 0 (mn n (t - p)))), put3b (HB.out.setCell (p := ⟨w.heap.size, 2, none⟩) (Nat.le_refl _) (.int .i64 (mx 0 (mn n (t - p))))) (by omega) (.int .i64 (t)) (.int .i64 (p)) (.int .i64 (mx 0 (mn n (t - p))))⟩ ?_
  clear HX HY HB
  clear c0 c1 c2 d0 d1 d2 f0 f1 f2 g0 g1 g2
  rintro W ⟨hy, hB⟩
  obtain ⟨d0, d1, d2⟩ := c3V hy
  exact bodyPost_ret (v := .agg #[.int .i64 (t), .int .i64 (p), .int .i64 (mx 0 (mn n (t - p)))]) (by simp only [results, Try.results30]; go_simp) rfl ⟨rfl, hB⟩
end Go.Proofs.Ytpbfbcdidkbjiaa
end
section
namespace Go.Proofs.Ytpbfbcdidkbjiaa
open Go.RowKit
set_option linter.unusedVariables false
set_option maxHeartbeats 1000000
attribute [local go_sem 5000] run_mx run_mn
attribute [local go_sem] growUpon_value growUpon_skip growUpon_enter
theorem th_prodV {m s : Int} (h1 : 0 ≤ m) (h2 : m ≤ 1000) (h3 : 0 ≤ s) (h4 : s ≤ 1000) : 0 ≤ m * s ∧ m * s ≤ 1000000 :=
  ⟨Int.mul_nonneg h1 h3, Int.le_trans (Int.mul_le_mul_of_nonneg_right h2 h3) (by omega)⟩
/-- thousandths -/
def thV (m s : Int) : Int := m * s / 1000
theorem thou_V (m s : Int) (w : World) (h1 : 0 ≤ m) (h2 : m ≤ 1000) (h3 : 0 ≤ s) (h4 : s ≤ 1000) : Calls Try.prog 34 #[.int .i64 m, .int .i64 s] w fun e w' => e = .returned (.int .i64 (thV m s)) ∧ Below w.heap.size w w' := by
  obtain ⟨q1, q2⟩ := th_prodV h1 h2 h3 h4
  go_enter Try.func34, Try.ntmps34
  go_wp2
  go_ret
  exact ⟨ret_int rfl, (by repeat (first | with_reducible exact Below.refl _ _ | with_reducible assumption | with_reducible refine balloc ?_ | (with_reducible refine bset ?_ ?_; rotate_left; ((try dsimp only); omega)) | refine bkeep2 ?_ (by assumption) | with_reducible refine Below.drew ?_))⟩
theorem part_V (n m : Int) (w : World) (h1 : 0 ≤ m) (h2 : m ≤ 1000) (h3 : 0 ≤ n) (h4 : n ≤ 1000) : Calls Try.prog 32 #[.int .i64 n, .int .i64 m] w fun e w' => e = .returned (.int .i64 (thV m n)) ∧ Below w.heap.size w w' := by
  obtain ⟨q1, q2⟩ := th_prodV h1 h2 h3 h4
  rw [Int.mul_comm] at q1 q2
  go_enter Try.func32, Try.ntmps32
  go_wp2
  go_ret
  exact ⟨ret_int (by rw [thV, Int.mul_comm]), (by repeat (first | with_reducible exact Below.refl _ _ | with_reducible assumption | with_reducible refine balloc ?_ | (with_reducible refine bset ?_ ?_; rotate_left; ((try dsimp only); omega)) | refine bkeep2 ?_ (by assumption) | with_reducible refine Below.drew ?_))⟩
theorem validRel_V (n : Int) (t : Bool) (w : World) (h : rng n 0 1000 = t) : Calls Try.prog 33 #[.int .i64 n] w fun e w' => e = .returned (.bool t) ∧ Below w.heap.size w w' := by
  go_enter Try.func33, Try.ntmps33
  go_wp2_with fail
  with_reducible refine (within_V _ _ _ t _ h).mono ?_
  rintro e w1 ⟨rfl, hb⟩
  go_wp2
  go_ret
  exact ⟨rfl, hb⟩
set_option maxRecDepth 100000 in
theorem ScrollBy_no (t p f n : Int) (w : World) (h : vwB t p f = false ∨ (vwB t p f = true ∧ rng n (-500) 500 = false)) : Calls Try.prog 13 #[.agg #[.int .i64 (t), .int .i64 (p), .int .i64 (f)], .int .i64 n] w fun e w' => e = .returned (.agg #[.int .i64 (0), .int .i64 (0), .int .i64 (0)]) ∧ Below w.heap.size w w' := by
  rcases h with h | ⟨h, h2⟩
  · go_enter Try.func13, Try.ntmps13
    go_upto_region 1 with (fail)
    refine wp_V (fun W => W.heap[w.heap.size]? = some (.cells #[.int .i64 (t), .int .i64 (p), .int .i64 (f)] 25 (0, 0)) ∧ W.heap[w.heap.size + 1]? = some (.cells #[.int .i64 (0), .int .i64 (0), .int .i64 (0)] 25 (0, 0)) ∧ Below w.heap.size w W) ⟨oldV _ _ _, newV1 _ _ _, balloc (balloc (Below.refl _ _))⟩ ?_
    rintro w0 ⟨hx, hy, hB⟩
    have HX := Lib.hid hx
    have HY := Lib.hid hy
    have HB := Lib.hid hB
    have hl0 := ltV hy
    clear hx hy hB
    obtain ⟨c0, c1, c2⟩ := c3V HX.out
    obtain ⟨d0, d1, d2⟩ := c3V HY.out
    obtain ⟨f0, f1, f2⟩ := f3V HX.out
    obtain ⟨g0, g1, g2⟩ := f3V HY.out
    go_wp2_with fail
    with_reducible refine (ValidView_v _ _ _ false _ h).mono ?_
    rintro e w1 ⟨rfl, hb⟩
    clear c0 c1 c2 d0 d1 d2 f0 f1 f2 g0 g1 g2
    replace HX := Lib.hid ((hb.block _ (ltV HX.out)).trans HX.out)
    replace HY := Lib.hid ((hb.block _ (ltV HY.out)).trans HY.out)
    replace HB := Lib.hid (bkeep2 HB.out hb)
    have hl1 := 0
    clear hb hl0 hl1
    have hl0 := ltV HY.out
    obtain ⟨c0, c1, c2⟩ := c3V HX.out
    obtain ⟨d0, d1, d2⟩ := c3V HY.out
    obtain ⟨f0, f1, f2⟩ := f3V HX.out
    obtain ⟨g0, g1, g2⟩ := f3V HY.out
    go_wp2
    refine bpV (fun W => W.heap[w.heap.size + 1]? = some (.cells #[.int .i64 (0), .int .i64 (0), .int .i64 (0)] 25 (0, 0)) ∧ Below w.heap.size w W) ⟨put3V HY.out (.int .i64 (0)) (.int .i64 (0)) (.int .i64 (0)), put3b HB.out (by omega) (.int .i64 (0)) (.int .i64 (0)) (.int .i64 (0))⟩ ?_
    clear HX HY HB
    clear c0 c1 c2 d0 d1 d2 f0 f1 f2 g0 g1 g2
    rintro W ⟨hy, hB⟩
    obtain ⟨d0, d1, d2⟩ := c3V hy
    exact bodyPost_ret (v := .agg #[.int .i64 (0), .int .i64 (0), .int .i64 (0)]) (by simp only [results, Try.results13]; go_simp) rfl ⟨rfl, hB⟩

  · go_enter Try.func13, Try.ntmps13
    go_upto_region 1 with (fail)
    refine wp_V (fun W => W.heap[w.heap.size]? = some (.cells #[.int .i64 (t), .int .i64 (p), .int .i64 (f)] 25 (0, 0)) ∧ W.heap[w.heap.size + 1]? = some (.cells #[.int .i64 (0), .int .i64 (0), .int .i64 (0)] 25 (0, 0)) ∧ Below w.heap.size w W) ⟨oldV _ _ _, newV1 _ _ _, balloc (balloc (Below.refl _ _))⟩ ?_
    rintro w0 ⟨hx, hy, hB⟩
    have HX := Lib.hid hx
    have HY := Lib.hid hy
    have HB := Lib.hid hB
    have hl0 := ltV hy
    clear hx hy hB
    obtain ⟨c0, c1, c2⟩ := c3V HX.out
    obtain ⟨d0, d1, d2⟩ := c3V HY.out
    obtain ⟨f0, f1, f2⟩ := f3V HX.out
    obtain ⟨g0, g1, g2⟩ := f3V HY.out
    go_wp2_with fail
    with_reducible refine (ValidView_v _ _ _ true _ h).mono ?_
    rintro e w1 ⟨rfl, hb⟩
    clear c0 c1 c2 d0 d1 d2 f0 f1 f2 g0 g1 g2
    replace HX := Lib.hid ((hb.block _ (ltV HX.out)).trans HX.out)
    replace HY := Lib.hid ((hb.block _ (ltV HY.out)).trans HY.out)
    replace HB := Lib.hid (bkeep2 HB.out hb)
    have hl1 := 0
    clear hb hl0 hl1
    have hl0 := ltV HY.out
    obtain ⟨c0, c1, c2⟩ := c3V HX.out
    obtain ⟨d0, d1, d2⟩ := c3V HY.out
    obtain ⟨f0, f1, f2⟩ := f3V HX.out
    obtain ⟨g0, g1, g2⟩ := f3V HY.out
    go_wp2_with fail
    with_reducible refine (within_V _ _ _ false _ h2).mono ?_
    rintro e w1 ⟨rfl, hb⟩
    clear c0 c1 c2 d0 d1 d2 f0 f1 f2 g0 g1 g2
    replace HX := Lib.hid ((hb.block _ (ltV HX.out)).trans HX.out)
    replace HY := Lib.hid ((hb.block _ (ltV HY.out)).trans HY.out)
    replace HB := Lib.hid (bkeep2 HB.out hb)
    have hl1 := 0
    clear hb hl0 hl1
    have hl0 := ltV HY.out
    obtain ⟨c0, c1, c2⟩ := c3V HX.out
    obtain ⟨d0, d1, d2⟩ := c3V HY.out
    obtain ⟨f0, f1, f2⟩ := f3V HX.out
    obtain ⟨g0, g1, g2⟩ := f3V HY.out
    go_wp2
    refine bpV (fun W => W.heap[w.heap.size + 1]? = some (.cells #[.int .i64 (0), .int .i64 (0), .int .i64 (0)] 25 (0, 0)) ∧ Below w.heap.size w W) ⟨put3V HY.out (.int .i64 (0)) (.int .i64 (0)) (.int .i64 (0)), put3b HB.out (by omega) (.int .i64 (0)) (.int .i64 (0)) (.int .i64 (0))⟩ ?_
    clear HX HY HB
    clear c0 c1 c2 d0 d1 d2 f0 f1 f2 g0 g1 g2
    rintro W ⟨hy, hB⟩
    obtain ⟨d0, d1, d2⟩ := c3V hy
    exact bodyPost_ret (v := .agg #[.int .i64 (0), .int .i64 (0), .int .i64 (0)]) (by simp only [results, Try.results13]; go_simp) rfl ⟨rfl, hB⟩

set_option maxRecDepth 100000 in
theorem ScrollBy_yes (t p f n : Int) (w : World) (h : vwB t p f = true) (h2 : rng n (-500) 500 = true) : Calls Try.prog 13 #[.agg #[.int .i64 (t), .int .i64 (p), .int .i64 (f)], .int .i64 n] w fun e w' => e = .returned (.agg #[.int .i64 (t), .int .i64 (p), .int .i64 (frV t p (f + n))]) ∧ Below w.heap.size w w' := by
  have g1 := vwB_iff.1 h
  have k1 : -1000 ≤ t ∧ t ≤ 1000 := by omega
  have k2 : -1000 ≤ p ∧ p ≤ 1000 := by omega
  have g2 := rng_iff.1 h2
  obtain ⟨g21, g22⟩ := g2
  have g3 := enV_spec t p
  have g4 : 0 ≤ f := by omega
  have g5 : f ≤ 500 := by omega
  clear g1 g3
  go_enter Try.func13, Try.ntmps13
  go_upto_region 1 with (fail)
  refine wp_V (fun W => W.heap[w.heap.size]? = some (.cells #[.int .i64 (t), .int .i64 (p), .int .i64 (f)] 25 (0, 0)) ∧ W.heap[w.heap.size + 1]? = some (.cells #[.int .i64 (0), .int .i64 (0), .int .i64 (0)] 25 (0, 0)) ∧ Below w.heap.size w W) ⟨oldV _ _ _, newV1 _ _ _, balloc (balloc (Below.refl _ _))⟩ ?_
  rintro w0 ⟨hx, hy, hB⟩
  have HX := Lib.hid hx
  have HY := Lib.hid hy
  have HB := Lib.hid hB
  have hl0 := ltV hy
  clear hx hy hB
  obtain ⟨c0, c1, c2⟩ := c3V HX.out
  obtain ⟨d0, d1, d2⟩ := c3V HY.out
  obtain ⟨f0, f1, f2⟩ := f3V HX.out
  obtain ⟨g0, g1, g2⟩ := f3V HY.out
  go_wp2_with fail
  with_reducible refine (ValidView_v _ _ _ true _ h).mono ?_
  rintro e w1 ⟨rfl, hb⟩
  clear c0 c1 c2 d0 d1 d2 f0 f1 f2 g0 g1 g2
  replace HX := Lib.hid ((hb.block _ (ltV HX.out)).trans HX.out)
  replace HY := Lib.hid ((hb.block _ (ltV HY.out)).trans HY.out)
  replace HB := Lib.hid (bkeep2 HB.out hb)
  have hl1 := 0
  clear hb hl0 hl1
  have hl0 := ltV HY.out
  obtain ⟨c0, c1, c2⟩ := c3V HX.out
  obtain ⟨d0, d1, d2⟩ := c3V HY.out
  obtain ⟨f0, f1, f2⟩ := f3V HX.out
  obtain ⟨g0, g1, g2⟩ := f3V HY.out
  go_wp2_with fail
  with_reducible refine (within_V _ _ _ true _ h2).mono ?_
  rintro e w1 ⟨rfl, hb⟩
  clear c0 c1 c2 d0 d1 d2 f0 f1 f2 g0 g1 g2
  replace HX := Lib.hid ((hb.block _ (ltV HX.out)).trans HX.out)
  replace HY := Lib.hid ((hb.block _ (ltV HY.out)).trans HY.out)
  replace HB := Lib.hid (bkeep2 HB.out hb)
  have hl1 := 0
  clear hb hl0 hl1
  have hl0 := ltV HY.out
  obtain ⟨c0, c1, c2⟩ := c3V HX.out
  obtain ⟨d0, d1, d2⟩ := c3V HY.out
  obtain ⟨f0, f1, f2⟩ := f3V HX.out
  obtain ⟨g0, g1, g2⟩ := f3V HY.out
  go_wp2_with fail
  with_reducible refine (from_v _ _ _ _ _ k1 k2).mono ?_
  rintro e w1 ⟨rfl, hb⟩
  clear c0 c1 c2 d0 d1 d2 f0 f1 f2 g0 g1 g2
  replace HX := Lib.hid ((hb.block _ (ltV HX.out)).trans HX.out)
  replace HY := Lib.hid ((hb.block _ (ltV HY.out)).trans HY.out)
  replace HB := Lib.hid (bkeep2 HB.out hb)
  have hl1 := 0
  clear hb hl0 hl1
  have hl0 := ltV HY.out
  obtain ⟨c0, c1, c2⟩ := c3V HX.out
  obtain ⟨d0, d1, d2⟩ := c3V HY.out
  obtain ⟨f0, f1, f2⟩ := f3V HX.out
  obtain ⟨g0, g1, g2⟩ := f3V HY.out
  go_wp2
  refine bpV (fun W => W.heap[w.heap.size + 1]? = some (.cells #[.int .i64 (t), .int .i64 (p), .int .i64 (frV t p (f + n))] 25 (0, 0)) ∧ Below w.heap.size w W) ⟨put3V HY.out (.int .i64 (t)) (.int .i64 (p)) (.int .i64 (frV t p (f + n))), put3b HB.out (by omega) (.int .i64 (t)) (.int .i64 (p)) (.int .i64 (frV t p (f + n)))⟩ ?_
  clear HX HY HB
  clear c0 c1 c2 d0 d1 d2 f0 f1 f2 g0 g1 g2
  rintro W ⟨hy, hB⟩
  obtain ⟨d0, d1, d2⟩ := c3V hy
  exact bodyPost_ret (v := .agg #[.int .i64 (t), .int .i64 (p), .int .i64 (frV t p (f + n))]) (by simp only [results, Try.results13]; go_simp) rfl ⟨rfl, hB⟩
set_option maxRecDepth 100000 in
theorem sScrollBy_no (t p f n : Int) (w : World) (h : vwB t p f = false ∨ (vwB t p f = true ∧ rng n (-500) 500 = false)) : Calls Try.prog 12 #[.agg #[.int .i64 (t), .int .i64 (p), .int .i64 (f)], .int .i64 n] w fun e w' => e = .returned (.agg #[.int .i64 (0), .int .i64 (0), .int .i64 (0)]) ∧ Below w.heap.size w w' := by
  rcases h with h | ⟨h, h2⟩
  · go_enter Try.func12, Try.ntmps12
    go_upto_region 1 with (fail)
    refine wp_V (fun W => W.heap[w.heap.size]? = some (.cells #[.int .i64 (t), .int .i64 (p), .int .i64 (f)] 25 (0, 0)) ∧ W.heap[w.heap.size + 1]? = some (.cells #[.int .i64 (0), .int .i64 (0), .int .i64 (0)] 25 (0, 0)) ∧ Below w.heap.size w W) ⟨oldV _ _ _, newV1 _ _ _, balloc (balloc (Below.refl _ _))⟩ ?_
    rintro w0 ⟨hx, hy, hB⟩
    have HX := Lib.hid hx
    have HY := Lib.hid hy
    have HB := Lib.hid hB
    have hl0 := ltV hy
    clear hx hy hB
    obtain ⟨c0, c1, c2⟩ := c3V HX.out
    obtain ⟨d0, d1, d2⟩ := c3V HY.out
    obtain ⟨f0, f1, f2⟩ := f3V HX.out
    obtain ⟨g0, g1, g2⟩ := f3V HY.out
    go_wp2_with fail
    with_reducible refine (svalidView_v _ _ _ false _ h).mono ?_
    rintro e w1 ⟨rfl, hb⟩
    clear c0 c1 c2 d0 d1 d2 f0 f1 f2 g0 g1 g2
    replace HX := Lib.hid ((hb.block _ (ltV HX.out)).trans HX.out)
    replace HY := Lib.hid ((hb.block _ (ltV HY.out)).trans HY.out)
    replace HB := Lib.hid (bkeep2 HB.out hb)
    have hl1 := 0
    clear hb hl0 hl1
    have hl0 := ltV HY.out
    obtain ⟨c0, c1, c2⟩ := c3V HX.out
    obtain ⟨d0, d1, d2⟩ := c3V HY.out
    obtain ⟨f0, f1, f2⟩ := f3V HX.out
    obtain ⟨g0, g1, g2⟩ := f3V HY.out
    go_wp2
    refine bpV (fun W => W.heap[w.heap.size + 1]? = some (.cells #[.int .i64 (0), .int .i64 (0), .int .i64 (0)] 25 (0, 0)) ∧ Below w.heap.size w W) ⟨put3V HY.out (.int .i64 (0)) (.int .i64 (0)) (.int .i64 (0)), put3b HB.out (by omega) (.int .i64 (0)) (.int .i64 (0)) (.int .i64 (0))⟩ ?_
    clear HX HY HB
    clear c0 c1 c2 d0 d1 d2 f0 f1 f2 g0 g1 g2
    rintro W ⟨hy, hB⟩
    obtain ⟨d0, d1, d2⟩ := c3V hy
    exact bodyPost_ret (v := .agg #[.int .i64 (0), .int .i64 (0), .int .i64 (0)]) (by simp only [results, Try.results12]; go_simp) rfl ⟨rfl, hB⟩

  · go_enter Try.func12, Try.ntmps12
    go_upto_region 1 with (fail)
    refine wp_V (fun W => W.heap[w.heap.size]? = some (.cells #[.int .i64 (t), .int .i64 (p), .int .i64 (f)] 25 (0, 0)) ∧ W.heap[w.heap.size + 1]? = some (.cells #[.int .i64 (0), .int .i64 (0), .int .i64 (0)] 25 (0, 0)) ∧ Below w.heap.size w W) ⟨oldV _ _ _, newV1 _ _ _, balloc (balloc (Below.refl _ _))⟩ ?_
    rintro w0 ⟨hx, hy, hB⟩
    have HX := Lib.hid hx
    have HY := Lib.hid hy
    have HB := Lib.hid hB
    have hl0 := ltV hy
    clear hx hy hB
    obtain ⟨c0, c1, c2⟩ := c3V HX.out
    obtain ⟨d0, d1, d2⟩ := c3V HY.out
    obtain ⟨f0, f1, f2⟩ := f3V HX.out
    obtain ⟨g0, g1, g2⟩ := f3V HY.out
    go_wp2_with fail
    with_reducible refine (svalidView_v _ _ _ true _ h).mono ?_
    rintro e w1 ⟨rfl, hb⟩
    clear c0 c1 c2 d0 d1 d2 f0 f1 f2 g0 g1 g2
    replace HX := Lib.hid ((hb.block _ (ltV HX.out)).trans HX.out)
    replace HY := Lib.hid ((hb.block _ (ltV HY.out)).trans HY.out)
    replace HB := Lib.hid (bkeep2 HB.out hb)
    have hl1 := 0
    clear hb hl0 hl1
    have hl0 := ltV HY.out
    obtain ⟨c0, c1, c2⟩ := c3V HX.out
    obtain ⟨d0, d1, d2⟩ := c3V HY.out
    obtain ⟨f0, f1, f2⟩ := f3V HX.out
    obtain ⟨g0, g1, g2⟩ := f3V HY.out
    go_wp2_with fail
    with_reducible refine (inRange_V _ _ _ false _ h2).mono ?_
    rintro e w1 ⟨rfl, hb⟩
    clear c0 c1 c2 d0 d1 d2 f0 f1 f2 g0 g1 g2
    replace HX := Lib.hid ((hb.block _ (ltV HX.out)).trans HX.out)
    replace HY := Lib.hid ((hb.block _ (ltV HY.out)).trans HY.out)
    replace HB := Lib.hid (bkeep2 HB.out hb)
    have hl1 := 0
    clear hb hl0 hl1
    have hl0 := ltV HY.out
    obtain ⟨c0, c1, c2⟩ := c3V HX.out
    obtain ⟨d0, d1, d2⟩ := c3V HY.out
    obtain ⟨f0, f1, f2⟩ := f3V HX.out
    obtain ⟨g0, g1, g2⟩ := f3V HY.out
    go_wp2
    refine bpV (fun W => W.heap[w.heap.size + 1]? = some (.cells #[.int .i64 (0), .int .i64 (0), .int .i64 (0)] 25 (0, 0)) ∧ Below w.heap.size w W) ⟨put3V HY.out (.int .i64 (0)) (.int .i64 (0)) (.int .i64 (0)), put3b HB.out (by omega) (.int .i64 (0)) (.int .i64 (0)) (.int .i64 (0))⟩ ?_
    clear HX HY HB
    clear c0 c1 c2 d0 d1 d2 f0 f1 f2 g0 g1 g2
    rintro W ⟨hy, hB⟩
    obtain ⟨d0, d1, d2⟩ := c3V hy
    exact bodyPost_ret (v := .agg #[.int .i64 (0), .int .i64 (0), .int .i64 (0)]) (by simp only [results, Try.results12]; go_simp) rfl ⟨rfl, hB⟩

set_option maxRecDepth 100000 in
theorem sScrollBy_yes (t p f n : Int) (w : World) (h : vwB t p f = true) (h2 : rng n (-500) 500 = true) : Calls Try.prog 12 #[.agg #[.int .i64 (t), .int .i64 (p), .int .i64 (f)], .int .i64 n] w fun e w' => e = .returned (.agg #[.int .i64 (t), .int .i64 (p), .int .i64 (frV t p (f + n))]) ∧ Below w.heap.size w w' := by
  have g1 := vwB_iff.1 h
  have k1 : -1000 ≤ t ∧ t ≤ 1000 := by omega
  have k2 : -1000 ≤ p ∧ p ≤ 1000 := by omega
  have g2 := rng_iff.1 h2
  obtain ⟨g21, g22⟩ := g2
  have g3 := enV_spec t p
  have g4 : 0 ≤ f := by omega
  have g5 : f ≤ 500 := by omega
  clear g1 g3
  go_enter Try.func12, Try.ntmps12
  go_upto_region 1 with (fail)
  refine wp_V (fun W => W.heap[w.heap.size]? = some (.cells #[.int .i64 (t), .int .i64 (p), .int .i64 (f)] 25 (0, 0)) ∧ W.heap[w.heap.size + 1]? = some (.cells #[.int .i64 (0), .int .i64 (0), .int .i64 (0)] 25 (0, 0)) ∧ Below w.heap.size w W) ⟨oldV _ _ _, newV1 _ _ _, balloc (balloc (Below.refl _ _))⟩ ?_
  rintro w0 ⟨hx, hy, hB⟩
  have HX := Lib.hid hx
  have HY := Lib.hid hy
  have HB := Lib.hid hB
  have hl0 := ltV hy
  clear hx hy hB
  obtain ⟨c0, c1, c2⟩ := c3V HX.out
  obtain ⟨d0, d1, d2⟩ := c3V HY.out
  obtain ⟨f0, f1, f2⟩ := f3V HX.out
  obtain ⟨g0, g1, g2⟩ := f3V HY.out
  go_wp2_with fail
  with_reducible refine (svalidView_v _ _ _ true _ h).mono ?_
  rintro e w1 ⟨rfl, hb⟩
  clear c0 c1 c2 d0 d1 d2 f0 f1 f2 g0 g1 g2
  replace HX := Lib.hid ((hb.block _ (ltV HX.out)).trans HX.out)
  replace HY := Lib.hid ((hb.block _ (ltV HY.out)).trans HY.out)
  replace HB := Lib.hid (bkeep2 HB.out hb)
  have hl1 := 0
  clear hb hl0 hl1
  have hl0 := ltV HY.out
  obtain ⟨c0, c1, c2⟩ := c3V HX.out
  obtain ⟨d0, d1, d2⟩ := c3V HY.out
  obtain ⟨f0, f1, f2⟩ := f3V HX.out
  obtain ⟨g0, g1, g2⟩ := f3V HY.out
  go_wp2_with fail
  with_reducible refine (inRange_V _ _ _ true _ h2).mono ?_
  rintro e w1 ⟨rfl, hb⟩
  clear c0 c1 c2 d0 d1 d2 f0 f1 f2 g0 g1 g2
  replace HX := Lib.hid ((hb.block _ (ltV HX.out)).trans HX.out)
  replace HY := Lib.hid ((hb.block _ (ltV HY.out)).trans HY.out)
  replace HB := Lib.hid (bkeep2 HB.out hb)
  have hl1 := 0
  clear hb hl0 hl1
  have hl0 := ltV HY.out
  obtain ⟨c0, c1, c2⟩ := c3V HX.out
  obtain ⟨d0, d1, d2⟩ := c3V HY.out
  obtain ⟨f0, f1, f2⟩ := f3V HX.out
  obtain ⟨g0, g1, g2⟩ := f3V HY.out
  go_wp2_with fail
  with_reducible refine (clamped_v _ _ _ _ _ k1 k2).mono ?_
  rintro e w1 ⟨rfl, hb⟩
  clear c0 c1 c2 d0 d1 d2 f0 f1 f2 g0 g1 g2
  replace HX := Lib.hid ((hb.block _ (ltV HX.out)).trans HX.out)
  replace HY := Lib.hid ((hb.block _ (ltV HY.out)).trans HY.out)
  replace HB := Lib.hid (bkeep2 HB.out hb)
  have hl1 := 0
  clear hb hl0 hl1
  have hl0 := ltV HY.out
  obtain ⟨c0, c1, c2⟩ := c3V HX.out
  obtain ⟨d0, d1, d2⟩ := c3V HY.out
  obtain ⟨f0, f1, f2⟩ := f3V HX.out
  obtain ⟨g0, g1, g2⟩ := f3V HY.out
  go_wp2
  refine bpV (fun W => W.heap[w.heap.size + 1]? = some (.cells #[.int .i64 (t), .int .i64 (p), .int .i64 (frV t p (f + n))] 25 (0, 0)) ∧ Below w.heap.size w W) ⟨put3V HY.out (.int .i64 (t)) (.int .i64 (p)) (.int .i64 (frV t p (f + n))), put3b HB.out (by omega) (.int .i64 (t)) (.int .i64 (p)) (.int .i64 (frV t p (f + n)))⟩ ?_
  clear HX HY HB
  clear c0 c1 c2 d0 d1 d2 f0 f1 f2 g0 g1 g2
  rintro W ⟨hy, hB⟩
  obtain ⟨d0, d1, d2⟩ := c3V hy
  exact bodyPost_ret (v := .agg #[.int .i64 (t), .int .i64 (p), .int .i64 (frV t p (f + n))]) (by simp only [results, Try.results12]; go_simp) rfl ⟨rfl, hB⟩
set_option maxRecDepth 100000 in
theorem MoveTo_no (t p f n : Int) (w : World) (h : vwB t p f = false ∨ (vwB t p f = true ∧ rng n 0 1000 = false)) : Calls Try.prog 16 #[.agg #[.int .i64 (t), .int .i64 (p), .int .i64 (f)], .int .i64 n] w fun e w' => e = .returned (.agg #[.int .i64 (0), .int .i64 (0), .int .i64 (0)]) ∧ Below w.heap.size w w' := by
  rcases h with h | ⟨h, h2⟩
  · go_enter Try.func16, Try.ntmps16
    go_upto_region 1 with (fail)
    refine wp_V (fun W => W.heap[w.heap.size]? = some (.cells #[.int .i64 (t), .int .i64 (p), .int .i64 (f)] 25 (0, 0)) ∧ W.heap[w.heap.size + 1]? = some (.cells #[.int .i64 (0), .int .i64 (0), .int .i64 (0)] 25 (0, 0)) ∧ Below w.heap.size w W) ⟨oldV _ _ _, newV1 _ _ _, balloc (balloc (Below.refl _ _))⟩ ?_
    rintro w0 ⟨hx, hy, hB⟩
    have HX := Lib.hid hx
    have HY := Lib.hid hy
    have HB := Lib.hid hB
    have hl0 := ltV hy
    clear hx hy hB
    obtain ⟨c0, c1, c2⟩ := c3V HX.out
    obtain ⟨d0, d1, d2⟩ := c3V HY.out
    obtain ⟨f0, f1, f2⟩ := f3V HX.out
    obtain ⟨g0, g1, g2⟩ := f3V HY.out
    go_wp2_with fail
    with_reducible refine (ValidView_v _ _ _ false _ h).mono ?_
    rintro e w1 ⟨rfl, hb⟩
    clear c0 c1 c2 d0 d1 d2 f0 f1 f2 g0 g1 g2
    replace HX := Lib.hid ((hb.block _ (ltV HX.out)).trans HX.out)
    replace HY := Lib.hid ((hb.block _ (ltV HY.out)).trans HY.out)
    replace HB := Lib.hid (bkeep2 HB.out hb)
    have hl1 := 0
    clear hb hl0 hl1
    have hl0 := ltV HY.out
    obtain ⟨c0, c1, c2⟩ := c3V HX.out
    obtain ⟨d0, d1, d2⟩ := c3V HY.out
    obtain ⟨f0, f1, f2⟩ := f3V HX.out
    obtain ⟨g0, g1, g2⟩ := f3V HY.out
    go_wp2
    refine bpV (fun W => W.heap[w.heap.size + 1]? = some (.cells #[.int .i64 (0), .int .i64 (0), .int .i64 (0)] 25 (0, 0)) ∧ Below w.heap.size w W) ⟨put3V HY.out (.int .i64 (0)) (.int .i64 (0)) (.int .i64 (0)), put3b HB.out (by omega) (.int .i64 (0)) (.int .i64 (0)) (.int .i64 (0))⟩ ?_
    clear HX HY HB
    clear c0 c1 c2 d0 d1 d2 f0 f1 f2 g0 g1 g2
    rintro W ⟨hy, hB⟩
    obtain ⟨d0, d1, d2⟩ := c3V hy
    exact bodyPost_ret (v := .agg #[.int .i64 (0), .int .i64 (0), .int .i64 (0)]) (by simp only [results, Try.results16]; go_simp) rfl ⟨rfl, hB⟩

  · go_enter Try.func16, Try.ntmps16
    go_upto_region 1 with (fail)
    refine wp_V (fun W => W.heap[w.heap.size]? = some (.cells #[.int .i64 (t), .int .i64 (p), .int .i64 (f)] 25 (0, 0)) ∧ W.heap[w.heap.size + 1]? = some (.cells #[.int .i64 (0), .int .i64 (0), .int .i64 (0)] 25 (0, 0)) ∧ Below w.heap.size w W) ⟨oldV _ _ _, newV1 _ _ _, balloc (balloc (Below.refl _ _))⟩ ?_
    rintro w0 ⟨hx, hy, hB⟩
    have HX := Lib.hid hx
    have HY := Lib.hid hy
    have HB := Lib.hid hB
    have hl0 := ltV hy
    clear hx hy hB
    obtain ⟨c0, c1, c2⟩ := c3V HX.out
    obtain ⟨d0, d1, d2⟩ := c3V HY.out
    obtain ⟨f0, f1, f2⟩ := f3V HX.out
    obtain ⟨g0, g1, g2⟩ := f3V HY.out
    go_wp2_with fail
    with_reducible refine (ValidView_v _ _ _ true _ h).mono ?_
    rintro e w1 ⟨rfl, hb⟩
    clear c0 c1 c2 d0 d1 d2 f0 f1 f2 g0 g1 g2
    replace HX := Lib.hid ((hb.block _ (ltV HX.out)).trans HX.out)
    replace HY := Lib.hid ((hb.block _ (ltV HY.out)).trans HY.out)
    replace HB := Lib.hid (bkeep2 HB.out hb)
    have hl1 := 0
    clear hb hl0 hl1
    have hl0 := ltV HY.out
    obtain ⟨c0, c1, c2⟩ := c3V HX.out
    obtain ⟨d0, d1, d2⟩ := c3V HY.out
    obtain ⟨f0, f1, f2⟩ := f3V HX.out
    obtain ⟨g0, g1, g2⟩ := f3V HY.out
    go_wp2_with fail
    with_reducible refine (validRel_V _ false _ h2).mono ?_
    rintro e w1 ⟨rfl, hb⟩
    clear c0 c1 c2 d0 d1 d2 f0 f1 f2 g0 g1 g2
    replace HX := Lib.hid ((hb.block _ (ltV HX.out)).trans HX.out)
    replace HY := Lib.hid ((hb.block _ (ltV HY.out)).trans HY.out)
    replace HB := Lib.hid (bkeep2 HB.out hb)
    have hl1 := 0
    clear hb hl0 hl1
    have hl0 := ltV HY.out
    obtain ⟨c0, c1, c2⟩ := c3V HX.out
    obtain ⟨d0, d1, d2⟩ := c3V HY.out
    obtain ⟨f0, f1, f2⟩ := f3V HX.out
    obtain ⟨g0, g1, g2⟩ := f3V HY.out
    go_wp2
    refine bpV (fun W => W.heap[w.heap.size + 1]? = some (.cells #[.int .i64 (0), .int .i64 (0), .int .i64 (0)] 25 (0, 0)) ∧ Below w.heap.size w W) ⟨put3V HY.out (.int .i64 (0)) (.int .i64 (0)) (.int .i64 (0)), put3b HB.out (by omega) (.int .i64 (0)) (.int .i64 (0)) (.int .i64 (0))⟩ ?_
    clear HX HY HB
    clear c0 c1 c2 d0 d1 d2 f0 f1 f2 g0 g1 g2
    rintro W ⟨hy, hB⟩
    obtain ⟨d0, d1, d2⟩ := c3V hy
    exact bodyPost_ret (v := .agg #[.int .i64 (0), .int .i64 (0), .int .i64 (0)]) (by simp only [results, Try.results16]; go_simp) rfl ⟨rfl, hB⟩

set_option maxRecDepth 100000 in
theorem MoveTo_yes (t p f n : Int) (w : World) (h : vwB t p f = true) (h2 : rng n 0 1000 = true) : Calls Try.prog 16 #[.agg #[.int .i64 (t), .int .i64 (p), .int .i64 (f)], .int .i64 n] w fun e w' => e = .returned (.agg #[.int .i64 (t), .int .i64 (p), .int .i64 (frV t p (thV n t))]) ∧ Below w.heap.size w w' := by
  have g1 := vwB_iff.1 h
  have k1 : -1000 ≤ t ∧ t ≤ 1000 := by omega
  have k2 : -1000 ≤ p ∧ p ≤ 1000 := by omega
  have g2 := rng_iff.1 h2
  obtain ⟨g21, g22⟩ := g2
  have g4 : 0 ≤ t := by omega
  have g5 : t ≤ 1000 := by omega
  clear g1
  go_enter Try.func16, Try.ntmps16
  go_upto_region 1 with (fail)
  refine wp_V (fun W => W.heap[w.heap.size]? = some (.cells #[.int .i64 (t), .int .i64 (p), .int .i64 (f)] 25 (0, 0)) ∧ W.heap[w.heap.size + 1]? = some (.cells #[.int .i64 (0), .int .i64 (0), .int .i64 (0)] 25 (0, 0)) ∧ Below w.heap.size w W) ⟨oldV _ _ _, newV1 _ _ _, balloc (balloc (Below.refl _ _))⟩ ?_
  rintro w0 ⟨hx, hy, hB⟩
  have HX := Lib.hid hx
  have HY := Lib.hid hy
  have HB := Lib.hid hB
  have hl0 := ltV hy
  clear hx hy hB
  obtain ⟨c0, c1, c2⟩ := c3V HX.out
  obtain ⟨d0, d1, d2⟩ := c3V HY.out
  obtain ⟨f0, f1, f2⟩ := f3V HX.out
  obtain ⟨g0, g1, g2⟩ := f3V HY.out
  go_wp2_with fail
  with_reducible refine (ValidView_v _ _ _ true _ h).mono ?_
  rintro e w1 ⟨rfl, hb⟩
  clear c0 c1 c2 d0 d1 d2 f0 f1 f2 g0 g1 g2
  replace HX := Lib.hid ((hb.block _ (ltV HX.out)).trans HX.out)
  replace HY := Lib.hid ((hb.block _ (ltV HY.out)).trans HY.out)
  replace HB := Lib.hid (bkeep2 HB.out hb)
  have hl1 := 0
  clear hb hl0 hl1
  have hl0 := ltV HY.out
  obtain ⟨c0, c1, c2⟩ := c3V HX.out
  obtain ⟨d0, d1, d2⟩ := c3V HY.out
  obtain ⟨f0, f1, f2⟩ := f3V HX.out
  obtain ⟨g0, g1, g2⟩ := f3V HY.out
  go_wp2_with fail
  with_reducible refine (validRel_V _ true _ h2).mono ?_
  rintro e w1 ⟨rfl, hb⟩
  clear c0 c1 c2 d0 d1 d2 f0 f1 f2 g0 g1 g2
  replace HX := Lib.hid ((hb.block _ (ltV HX.out)).trans HX.out)
  replace HY := Lib.hid ((hb.block _ (ltV HY.out)).trans HY.out)
  replace HB := Lib.hid (bkeep2 HB.out hb)
  have hl1 := 0
  clear hb hl0 hl1
  have hl0 := ltV HY.out
  obtain ⟨c0, c1, c2⟩ := c3V HX.out
  obtain ⟨d0, d1, d2⟩ := c3V HY.out
  obtain ⟨f0, f1, f2⟩ := f3V HX.out
  obtain ⟨g0, g1, g2⟩ := f3V HY.out
  go_wp2_with fail
  refine wp_region_grow 6 1 (· < 6) (by kernel_rfl) (by kernel_rfl) rfl ?_
  iterate 6 (refine wpG_step (fun K hK => ?_); first | (refine grow_skip rfl ?_; go_simp; refine hK _ ?_; clear hK K) | (apply Exists.intro; refine ⟨.inl ⟨rfl, fun w' hw' => ?_⟩, ?_⟩; (focus ((obtain ⟨hc, hf⟩ := bcell hw'.out); (have hcS := bcellS hw'.out); go_simp <;> first | rfl | (go_at_call 34; exact thou_V _ _ _ g21 g22 g4 g5) | (go_at_call 31; exact from_v _ _ _ _ _ k1 k2))); (go_simp; refine hK _ ?_; clear hK K)))
  refine wpG_nil ?_
  refine wpK_tail (by kernel_rfl) (fun w9 hg9 => ?_)
  have hb9 := bdrewn hg9.out
  obtain ⟨hc9, hf9⟩ := bcell hb9
  refine wpAny_one (i := 6) (by kernel_rfl) rfl rfl ?_
  go_simp
  refine wpAny_end (by kernel_rfl) ?_
  refine NoPan.thn ?_
  clear hc9 hf9
  clear hg9
  go_wp2
  refine bpV (fun W => W.heap[w.heap.size + 1]? = some (.cells #[.int .i64 (t), .int .i64 (p), .int .i64 (frV t p (thV n t))] 25 (0, 0)) ∧ Below w.heap.size w W) ⟨put3V ((hb9.block _ (ltV HY.out)).trans HY.out) (.int .i64 (t)) (.int .i64 (p)) (.int .i64 (frV t p (thV n t))), put3b (bkeep2 HB.out hb9) (by omega) (.int .i64 (t)) (.int .i64 (p)) (.int .i64 (frV t p (thV n t)))⟩ ?_
  clear HX HY HB hb9
  clear c0 c1 c2 d0 d1 d2 f0 f1 f2 g0 g1 g2
  rintro W ⟨hy, hB⟩
  obtain ⟨d0, d1, d2⟩ := c3V hy
  exact bodyPost_ret (v := .agg #[.int .i64 (t), .int .i64 (p), .int .i64 (frV t p (thV n t))]) (by simp only [results, Try.results16]; go_simp) rfl ⟨rfl, hB⟩
set_option maxRecDepth 100000 in
theorem sMoveTo_no (t p f n : Int) (w : World) (h : vwB t p f = false ∨ (vwB t p f = true ∧ rng n 0 1000 = false)) : Calls Try.prog 15 #[.agg #[.int .i64 (t), .int .i64 (p), .int .i64 (f)], .int .i64 n] w fun e w' => e = .returned (.agg #[.int .i64 (0), .int .i64 (0), .int .i64 (0)]) ∧ Below w.heap.size w w' := by
  rcases h with h | ⟨h, h2⟩
  · go_enter Try.func15, Try.ntmps15
    go_upto_region 1 with (fail)
    refine wp_V (fun W => W.heap[w.heap.size]? = some (.cells #[.int .i64 (t), .int .i64 (p), .int .i64 (f)] 25 (0, 0)) ∧ W.heap[w.heap.size + 1]? = some (.cells #[.int .i64 (0), .int .i64 (0), .int .i64 (0)] 25 (0, 0)) ∧ Below w.heap.size w W) ⟨oldV _ _ _, newV1 _ _ _, balloc (balloc (Below.refl _ _))⟩ ?_
    rintro w0 ⟨hx, hy, hB⟩
    have HX := Lib.hid hx
    have HY := Lib.hid hy
    have HB := Lib.hid hB
    have hl0 := ltV hy
    clear hx hy hB
    obtain ⟨c0, c1, c2⟩ := c3V HX.out
    obtain ⟨d0, d1, d2⟩ := c3V HY.out
    obtain ⟨f0, f1, f2⟩ := f3V HX.out
    obtain ⟨g0, g1, g2⟩ := f3V HY.out
    go_wp2_with fail
    with_reducible refine (svalidView_v _ _ _ false _ h).mono ?_
    rintro e w1 ⟨rfl, hb⟩
    clear c0 c1 c2 d0 d1 d2 f0 f1 f2 g0 g1 g2
    replace HX := Lib.hid ((hb.block _ (ltV HX.out)).trans HX.out)
    replace HY := Lib.hid ((hb.block _ (ltV HY.out)).trans HY.out)
    replace HB := Lib.hid (bkeep2 HB.out hb)
    have hl1 := 0
    clear hb hl0 hl1
    have hl0 := ltV HY.out
    obtain ⟨c0, c1, c2⟩ := c3V HX.out
    obtain ⟨d0, d1, d2⟩ := c3V HY.out
    obtain ⟨f0, f1, f2⟩ := f3V HX.out
    obtain ⟨g0, g1, g2⟩ := f3V HY.out
    go_wp2
    refine bpV (fun W => W.heap[w.heap.size + 1]? = some (.cells #[.int .i64 (0), .int .i64 (0), .int .i64 (0)] 25 (0, 0)) ∧ Below w.heap.size w W) ⟨put3V HY.out (.int .i64 (0)) (.int .i64 (0)) (.int .i64 (0)), put3b HB.out (by omega) (.int .i64 (0)) (.int .i64 (0)) (.int .i64 (0))⟩ ?_
    clear HX HY HB
    clear c0 c1 c2 d0 d1 d2 f0 f1 f2 g0 g1 g2
    rintro W ⟨hy, hB⟩
    obtain ⟨d0, d1, d2⟩ := c3V hy
    exact bodyPost_ret (v := .agg #[.int .i64 (0), .int .i64 (0), .int .i64 (0)]) (by simp only [results, Try.results15]; go_simp) rfl ⟨rfl, hB⟩

  · go_enter Try.func15, Try.ntmps15
    go_upto_region 1 with (fail)
    refine wp_V (fun W => W.heap[w.heap.size]? = some (.cells #[.int .i64 (t), .int .i64 (p), .int .i64 (f)] 25 (0, 0)) ∧ W.heap[w.heap.size + 1]? = some (.cells #[.int .i64 (0), .int .i64 (0), .int .i64 (0)] 25 (0, 0)) ∧ Below w.heap.size w W) ⟨oldV _ _ _, newV1 _ _ _, balloc (balloc (Below.refl _ _))⟩ ?_
    rintro w0 ⟨hx, hy, hB⟩
    have HX := Lib.hid hx
    have HY := Lib.hid hy
    have HB := Lib.hid hB
    have hl0 := ltV hy
    clear hx hy hB
    obtain ⟨c0, c1, c2⟩ := c3V HX.out
    obtain ⟨d0, d1, d2⟩ := c3V HY.out
    obtain ⟨f0, f1, f2⟩ := f3V HX.out
    obtain ⟨g0, g1, g2⟩ := f3V HY.out
    go_wp2_with fail
    with_reducible refine (svalidView_v _ _ _ true _ h).mono ?_
    rintro e w1 ⟨rfl, hb⟩
    clear c0 c1 c2 d0 d1 d2 f0 f1 f2 g0 g1 g2
    replace HX := Lib.hid ((hb.block _ (ltV HX.out)).trans HX.out)
    replace HY := Lib.hid ((hb.block _ (ltV HY.out)).trans HY.out)
    replace HB := Lib.hid (bkeep2 HB.out hb)
    have hl1 := 0
    clear hb hl0 hl1
    have hl0 := ltV HY.out
    obtain ⟨c0, c1, c2⟩ := c3V HX.out
    obtain ⟨d0, d1, d2⟩ := c3V HY.out
    obtain ⟨f0, f1, f2⟩ := f3V HX.out
    obtain ⟨g0, g1, g2⟩ := f3V HY.out
    go_wp2_with fail
    with_reducible refine (inRange_V _ _ _ false _ h2).mono ?_
    rintro e w1 ⟨rfl, hb⟩
    clear c0 c1 c2 d0 d1 d2 f0 f1 f2 g0 g1 g2
    replace HX := Lib.hid ((hb.block _ (ltV HX.out)).trans HX.out)
    replace HY := Lib.hid ((hb.block _ (ltV HY.out)).trans HY.out)
    replace HB := Lib.hid (bkeep2 HB.out hb)
    have hl1 := 0
    clear hb hl0 hl1
    have hl0 := ltV HY.out
    obtain ⟨c0, c1, c2⟩ := c3V HX.out
    obtain ⟨d0, d1, d2⟩ := c3V HY.out
    obtain ⟨f0, f1, f2⟩ := f3V HX.out
    obtain ⟨g0, g1, g2⟩ := f3V HY.out
    go_wp2
    refine bpV (fun W => W.heap[w.heap.size + 1]? = some (.cells #[.int .i64 (0), .int .i64 (0), .int .i64 (0)] 25 (0, 0)) ∧ Below w.heap.size w W) ⟨put3V HY.out (.int .i64 (0)) (.int .i64 (0)) (.int .i64 (0)), put3b HB.out (by omega) (.int .i64 (0)) (.int .i64 (0)) (.int .i64 (0))⟩ ?_
    clear HX HY HB
    clear c0 c1 c2 d0 d1 d2 f0 f1 f2 g0 g1 g2
    rintro W ⟨hy, hB⟩
    obtain ⟨d0, d1, d2⟩ := c3V hy
    exact bodyPost_ret (v := .agg #[.int .i64 (0), .int .i64 (0), .int .i64 (0)]) (by simp only [results, Try.results15]; go_simp) rfl ⟨rfl, hB⟩

set_option maxRecDepth 100000 in
theorem sMoveTo_yes (t p f n : Int) (w : World) (h : vwB t p f = true) (h2 : rng n 0 1000 = true) : Calls Try.prog 15 #[.agg #[.int .i64 (t), .int .i64 (p), .int .i64 (f)], .int .i64 n] w fun e w' => e = .returned (.agg #[.int .i64 (t), .int .i64 (p), .int .i64 (frV t p (thV n t))]) ∧ Below w.heap.size w w' := by
  have g1 := vwB_iff.1 h
  have k1 : -1000 ≤ t ∧ t ≤ 1000 := by omega
  have k2 : -1000 ≤ p ∧ p ≤ 1000 := by omega
  have g2 := rng_iff.1 h2
  obtain ⟨g21, g22⟩ := g2
  have g4 : 0 ≤ t := by omega
  have g5 : t ≤ 1000 := by omega
  clear g1
  go_enter Try.func15, Try.ntmps15
  go_upto_region 1 with (fail)
  refine wp_V (fun W => W.heap[w.heap.size]? = some (.cells #[.int .i64 (t), .int .i64 (p), .int .i64 (f)] 25 (0, 0)) ∧ W.heap[w.heap.size + 1]? = some (.cells #[.int .i64 (0), .int .i64 (0), .int .i64 (0)] 25 (0, 0)) ∧ Below w.heap.size w W) ⟨oldV _ _ _, newV1 _ _ _, balloc (balloc (Below.refl _ _))⟩ ?_
  rintro w0 ⟨hx, hy, hB⟩
  have HX := Lib.hid hx
  have HY := Lib.hid hy
  have HB := Lib.hid hB
  have hl0 := ltV hy
  clear hx hy hB
  obtain ⟨c0, c1, c2⟩ := c3V HX.out
  obtain ⟨d0, d1, d2⟩ := c3V HY.out
  obtain ⟨f0, f1, f2⟩ := f3V HX.out
  obtain ⟨g0, g1, g2⟩ := f3V HY.out
  go_wp2_with fail
  with_reducible refine (svalidView_v _ _ _ true _ h).mono ?_
  rintro e w1 ⟨rfl, hb⟩
  clear c0 c1 c2 d0 d1 d2 f0 f1 f2 g0 g1 g2
  replace HX := Lib.hid ((hb.block _ (ltV HX.out)).trans HX.out)
  replace HY := Lib.hid ((hb.block _ (ltV HY.out)).trans HY.out)
  replace HB := Lib.hid (bkeep2 HB.out hb)
  have hl1 := 0
  clear hb hl0 hl1
  have hl0 := ltV HY.out
  obtain ⟨c0, c1, c2⟩ := c3V HX.out
  obtain ⟨d0, d1, d2⟩ := c3V HY.out
  obtain ⟨f0, f1, f2⟩ := f3V HX.out
  obtain ⟨g0, g1, g2⟩ := f3V HY.out
  go_wp2_with fail
  with_reducible refine (inRange_V _ _ _ true _ h2).mono ?_
  rintro e w1 ⟨rfl, hb⟩
  clear c0 c1 c2 d0 d1 d2 f0 f1 f2 g0 g1 g2
  replace HX := Lib.hid ((hb.block _ (ltV HX.out)).trans HX.out)
  replace HY := Lib.hid ((hb.block _ (ltV HY.out)).trans HY.out)
  replace HB := Lib.hid (bkeep2 HB.out hb)
  have hl1 := 0
  clear hb hl0 hl1
  have hl0 := ltV HY.out
  obtain ⟨c0, c1, c2⟩ := c3V HX.out
  obtain ⟨d0, d1, d2⟩ := c3V HY.out
  obtain ⟨f0, f1, f2⟩ := f3V HX.out
  obtain ⟨g0, g1, g2⟩ := f3V HY.out
  go_wp2_with fail
  refine wp_region_grow 6 1 (· < 6) (by kernel_rfl) (by kernel_rfl) rfl ?_
  iterate 6 (refine wpG_step (fun K hK => ?_); first | (refine grow_skip rfl ?_; go_simp; refine hK _ ?_; clear hK K) | (apply Exists.intro; refine ⟨.inl ⟨rfl, fun w' hw' => ?_⟩, ?_⟩; (focus ((obtain ⟨hc, hf⟩ := bcell hw'.out); (have hcS := bcellS hw'.out); go_simp <;> first | rfl | (go_at_call 32; exact part_V _ _ _ g21 g22 g4 g5) | (go_at_call 30; exact clamped_v _ _ _ _ _ k1 k2))); (go_simp; refine hK _ ?_; clear hK K)))
  refine wpG_nil ?_
  refine wpK_tail (by kernel_rfl) (fun w9 hg9 => ?_)
  have hb9 := bdrewn hg9.out
  obtain ⟨hc9, hf9⟩ := bcell hb9
  refine wpAny_one (i := 6) (by kernel_rfl) rfl rfl ?_
  go_simp
  refine wpAny_end (by kernel_rfl) ?_
  refine NoPan.thn ?_
  clear hc9 hf9
  clear hg9
  go_wp2
  refine bpV (fun W => W.heap[w.heap.size + 1]? = some (.cells #[.int .i64 (t), .int .i64 (p), .int .i64 (frV t p (thV n t))] 25 (0, 0)) ∧ Below w.heap.size w W) ⟨put3V ((hb9.block _ (ltV HY.out)).trans HY.out) (.int .i64 (t)) (.int .i64 (p)) (.int .i64 (frV t p (thV n t))), put3b (bkeep2 HB.out hb9) (by omega) (.int .i64 (t)) (.int .i64 (p)) (.int .i64 (frV t p (thV n t)))⟩ ?_
  clear HX HY HB hb9
  clear c0 c1 c2 d0 d1 d2 f0 f1 f2 g0 g1 g2
  rintro W ⟨hy, hB⟩
  obtain ⟨d0, d1, d2⟩ := c3V hy
  exact bodyPost_ret (v := .agg #[.int .i64 (t), .int .i64 (p), .int .i64 (frV t p (thV n t))]) (by simp only [results, Try.results15]; go_simp) rfl ⟨rfl, hB⟩
end Go.Proofs.Ytpbfbcdidkbjiaa
end
