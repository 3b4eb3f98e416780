import Derived.Test.YtpbfbcdidkbjiadQ03
section
namespace Go.Proofs.Ytpbfbcdidkbjiad
open Go.RowKit
set_option linter.unusedVariables false
set_option maxHeartbeats 1000000
attribute [local go_sem 5000] run_mx run_mn
attribute [local go_sem] growUpon_value growUpon_skip growUpon_enter
theorem th_prodV {m s : Int} (h1 : 0 ≤ m) (h2 : m ≤ 1000) (h3 : 0 ≤ s) (h4 : s ≤ 1000) : 0 ≤ m * s ∧ m * s ≤ 1000000 :=
  ⟨Int.mul_nonneg h1 h3, Int.le_trans (Int.mul_le_mul_of_nonneg_right h2 h3) (by omega)⟩
/-- thousandths -/
def thV (m s : Int) : Int := m * s / 1000
theorem thou_V (m s : Int) (w : World) (h1 : 0 ≤ m) (h2 : m ≤ 1000) (h3 : 0 ≤ s) (h4 : s ≤ 1000) : Calls Try.prog 22 #[.int .i64 m, .int .i64 s] w fun e w' => e = .returned (.int .i64 (thV m s)) ∧ Below w.heap.size w w' := by
  obtain ⟨q1, q2⟩ := th_prodV h1 h2 h3 h4
  go_enter Try.func22, Try.ntmps22
  go_wp2
  go_ret
  exact ⟨ret_int rfl, (by repeat (first | with_reducible exact Below.refl _ _ | with_reducible assumption | with_reducible refine balloc ?_ | (with_reducible refine bset ?_ ?_; rotate_left; ((try dsimp only); omega)) | refine bkeep2 ?_ (by assumption) | with_reducible refine Below.drew ?_))⟩
theorem part_V (n m : Int) (w : World) (h1 : 0 ≤ m) (h2 : m ≤ 1000) (h3 : 0 ≤ n) (h4 : n ≤ 1000) : Calls Try.prog 26 #[.int .i64 n, .int .i64 m] w fun e w' => e = .returned (.int .i64 (thV m n)) ∧ Below w.heap.size w w' := by
  obtain ⟨q1, q2⟩ := th_prodV h1 h2 h3 h4
  rw [Int.mul_comm] at q1 q2
  go_enter Try.func26, Try.ntmps26
  go_wp2
  go_ret
  exact ⟨ret_int (by rw [thV, Int.mul_comm]), (by repeat (first | with_reducible exact Below.refl _ _ | with_reducible assumption | with_reducible refine balloc ?_ | (with_reducible refine bset ?_ ?_; rotate_left; ((try dsimp only); omega)) | refine bkeep2 ?_ (by assumption) | with_reducible refine Below.drew ?_))⟩
theorem validRel_V (n : Int) (t : Bool) (w : World) (h : rng n 0 1000 = t) : Calls Try.prog 20 #[.int .i64 n] w fun e w' => e = .returned (.bool t) ∧ Below w.heap.size w w' := by
  go_enter Try.func20, Try.ntmps20
  go_wp2_with fail
  with_reducible refine (within_V _ _ _ t _ h).mono ?_
  rintro e w1 ⟨rfl, hb⟩
  go_wp2
  go_ret
  exact ⟨rfl, hb⟩
set_option maxRecDepth 100000 in
theorem MoveTo_no (t p f n : Int) (w : World) (h : vwB t p f = false ∨ (vwB t p f = true ∧ rng n 0 1000 = false)) : Calls Try.prog 7 #[.agg #[.int .i64 (t), .int .i64 (p), .int .i64 (f)], .int .i64 n] w fun e w' => e = .returned (.agg #[.int .i64 (0), .int .i64 (0), .int .i64 (0)]) ∧ Below w.heap.size w w' := by
  rcases h with h | ⟨h, h2⟩
  · go_enter Try.func7, Try.ntmps7
    go_upto_region 1 with (fail)
    refine wp_V (fun W => W.heap[w.heap.size]? = some (.cells #[.int .i64 (t), .int .i64 (p), .int .i64 (f)] 24 (0, 0)) ∧ W.heap[w.heap.size + 1]? = some (.cells #[.int .i64 (0), .int .i64 (0), .int .i64 (0)] 24 (0, 0)) ∧ Below w.heap.size w W) ⟨oldV _ _ _, newV1 _ _ _, balloc (balloc (Below.refl _ _))⟩ ?_
    rintro w0 ⟨hx, hy, hB⟩
    have HX := Lib.hid hx
    have HY := Lib.hid hy
    have HB := Lib.hid hB
    have hl0 := ltV hy
    clear hx hy hB
    obtain ⟨c0, c1, c2⟩ := c3V HX.out
    obtain ⟨d0, d1, d2⟩ := c3V HY.out
    obtain ⟨f0, f1, f2⟩ := f3V HX.out
    obtain ⟨g0, g1, g2⟩ := f3V HY.out
    go_wp2_with fail
    with_reducible refine (ValidView_v _ _ _ false _ h).mono ?_
    rintro e w1 ⟨rfl, hb⟩
    clear c0 c1 c2 d0 d1 d2 f0 f1 f2 g0 g1 g2
    replace HX := Lib.hid ((hb.block _ (ltV HX.out)).trans HX.out)
    replace HY := Lib.hid ((hb.block _ (ltV HY.out)).trans HY.out)
    replace HB := Lib.hid (bkeep2 HB.out hb)
    have hl1 := 0
    clear hb hl0 hl1
    have hl0 := ltV HY.out
    obtain ⟨c0, c1, c2⟩ := c3V HX.out
    obtain ⟨d0, d1, d2⟩ := c3V HY.out
    obtain ⟨f0, f1, f2⟩ := f3V HX.out
    obtain ⟨g0, g1, g2⟩ := f3V HY.out
    go_wp2
    refine bpV (fun W => W.heap[w.heap.size + 1]? = some (.cells #[.int .i64 (0), .int .i64 (0), .int .i64 (0)] 24 (0, 0)) ∧ Below w.heap.size w W) ⟨put3V HY.out (.int .i64 (0)) (.int .i64 (0)) (.int .i64 (0)), put3b HB.out (by omega) (.int .i64 (0)) (.int .i64 (0)) (.int .i64 (0))⟩ ?_
    clear HX HY HB
    clear c0 c1 c2 d0 d1 d2 f0 f1 f2 g0 g1 g2
    rintro W ⟨hy, hB⟩
    obtain ⟨d0, d1, d2⟩ := c3V hy
    exact bodyPost_ret (v := .agg #[.int .i64 (0), .int .i64 (0), .int .i64 (0)]) (by simp only [results, Try.results7]; go_simp) rfl ⟨rfl, hB⟩

  · go_enter Try.func7, Try.ntmps7
    go_upto_region 1 with (fail)
    refine wp_V (fun W => W.heap[w.heap.size]? = some (.cells #[.int .i64 (t), .int .i64 (p), .int .i64 (f)] 24 (0, 0)) ∧ W.heap[w.heap.size + 1]? = some (.cells #[.int .i64 (0), .int .i64 (0), .int .i64 (0)] 24 (0, 0)) ∧ Below w.heap.size w W) ⟨oldV _ _ _, newV1 _ _ _, balloc (balloc (Below.refl _ _))⟩ ?_
    rintro w0 ⟨hx, hy, hB⟩
    have HX := Lib.hid hx
    have HY := Lib.hid hy
    have HB := Lib.hid hB
    have hl0 := ltV hy
    clear hx hy hB
    obtain ⟨c0, c1, c2⟩ := c3V HX.out
    obtain ⟨d0, d1, d2⟩ := c3V HY.out
    obtain ⟨f0, f1, f2⟩ := f3V HX.out
    obtain ⟨g0, g1, g2⟩ := f3V HY.out
    go_wp2_with fail
    with_reducible refine (ValidView_v _ _ _ true _ h).mono ?_
    rintro e w1 ⟨rfl, hb⟩
    clear c0 c1 c2 d0 d1 d2 f0 f1 f2 g0 g1 g2
    replace HX := Lib.hid ((hb.block _ (ltV HX.out)).trans HX.out)
    replace HY := Lib.hid ((hb.block _ (ltV HY.out)).trans HY.out)
    replace HB := Lib.hid (bkeep2 HB.out hb)
    have hl1 := 0
    clear hb hl0 hl1
    have hl0 := ltV HY.out
    obtain ⟨c0, c1, c2⟩ := c3V HX.out
    obtain ⟨d0, d1, d2⟩ := c3V HY.out
    obtain ⟨f0, f1, f2⟩ := f3V HX.out
    obtain ⟨g0, g1, g2⟩ := f3V HY.out
    go_wp2_with fail
    with_reducible refine (validRel_V _ false _ h2).mono ?_
    rintro e w1 ⟨rfl, hb⟩
    clear c0 c1 c2 d0 d1 d2 f0 f1 f2 g0 g1 g2
    replace HX := Lib.hid ((hb.block _ (ltV HX.out)).trans HX.out)
    replace HY := Lib.hid ((hb.block _ (ltV HY.out)).trans HY.out)
    replace HB := Lib.hid (bkeep2 HB.out hb)
    have hl1 := 0
    clear hb hl0 hl1
    have hl0 := ltV HY.out
    obtain ⟨c0, c1, c2⟩ := c3V HX.out
    obtain ⟨d0, d1, d2⟩ := c3V HY.out
    obtain ⟨f0, f1, f2⟩ := f3V HX.out
    obtain ⟨g0, g1, g2⟩ := f3V HY.out
    go_wp2
    refine bpV (fun W => W.heap[w.heap.size + 1]? = some (.cells #[.int .i64 (0), .int .i64 (0), .int .i64 (0)] 24 (0, 0)) ∧ Below w.heap.size w W) ⟨put3V HY.out (.int .i64 (0)) (.int .i64 (0)) (.int .i64 (0)), put3b HB.out (by omega) (.int .i64 (0)) (.int .i64 (0)) (.int .i64 (0))⟩ ?_
    clear HX HY HB
    clear c0 c1 c2 d0 d1 d2 f0 f1 f2 g0 g1 g2
    rintro W ⟨hy, hB⟩
    obtain ⟨d0, d1, d2⟩ := c3V hy
    exact bodyPost_ret (v := .agg #[.int .i64 (0), .int .i64 (0), .int .i64 (0)]) (by simp only [results, Try.results7]; go_simp) rfl ⟨rfl, hB⟩

set_option maxRecDepth 100000 in
theorem MoveTo_yes (t p f n : Int) (w : World) (h : vwB t p f = true) (h2 : rng n 0 1000 = true) : Calls Try.prog 7 #[.agg #[.int .i64 (t), .int .i64 (p), .int .i64 (f)], .int .i64 n] w fun e w' => e = .returned (.agg #[.int .i64 (t), .int .i64 (p), .int .i64 (frV t p (thV n t))]) ∧ Below w.heap.size w w' := by
  have g1 := vwB_iff.1 h
  have k1 : -1000 ≤ t ∧ t ≤ 1000 := by omega
  have k2 : -1000 ≤ p ∧ p ≤ 1000 := by omega
  have g2 := rng_iff.1 h2
  obtain ⟨g21, g22⟩ := g2
  have g4 : 0 ≤ t := by omega
  have g5 : t ≤ 1000 := by omega
  clear g1
  go_enter Try.func7, Try.ntmps7
  go_upto_region 1 with (fail)
  refine wp_V (fun W => W.heap[w.heap.size]? = some (.cells #[.int .i64 (t), .int .i64 (p), .int .i64 (f)] 24 (0, 0)) ∧ W.heap[w.heap.size + 1]? = some (.cells #[.int .i64 (0), .int .i64 (0), .int .i64 (0)] 24 (0, 0)) ∧ Below w.heap.size w W) ⟨oldV _ _ _, newV1 _ _ _, balloc (balloc (Below.refl _ _))⟩ ?_
  rintro w0 ⟨hx, hy, hB⟩
  have HX := Lib.hid hx
  have HY := Lib.hid hy
  have HB := Lib.hid hB
  have hl0 := ltV hy
  clear hx hy hB
  obtain ⟨c0, c1, c2⟩ := c3V HX.out
  obtain ⟨d0, d1, d2⟩ := c3V HY.out
  obtain ⟨f0, f1, f2⟩ := f3V HX.out
  obtain ⟨g0, g1, g2⟩ := f3V HY.out
  go_wp2_with fail
  with_reducible refine (ValidView_v _ _ _ true _ h).mono ?_
  rintro e w1 ⟨rfl, hb⟩
  clear c0 c1 c2 d0 d1 d2 f0 f1 f2 g0 g1 g2
  replace HX := Lib.hid ((hb.block _ (ltV HX.out)).trans HX.out)
  replace HY := Lib.hid ((hb.block _ (ltV HY.out)).trans HY.out)
  replace HB := Lib.hid (bkeep2 HB.out hb)
  have hl1 := 0
  clear hb hl0 hl1
  have hl0 := ltV HY.out
  obtain ⟨c0, c1, c2⟩ := c3V HX.out
  obtain ⟨d0, d1, d2⟩ := c3V HY.out
  obtain ⟨f0, f1, f2⟩ := f3V HX.out
  obtain ⟨g0, g1, g2⟩ := f3V HY.out
  go_wp2_with fail
  with_reducible refine (validRel_V _ true _ h2).mono ?_
  rintro e w1 ⟨rfl, hb⟩
  clear c0 c1 c2 d0 d1 d2 f0 f1 f2 g0 g1 g2
  replace HX := Lib.hid ((hb.block _ (ltV HX.out)).trans HX.out)
  replace HY := Lib.hid ((hb.block _ (ltV HY.out)).trans HY.out)
  replace HB := Lib.hid (bkeep2 HB.out hb)
  have hl1 := 0
  clear hb hl0 hl1
  have hl0 := ltV HY.out
  obtain ⟨c0, c1, c2⟩ := c3V HX.out
  obtain ⟨d0, d1, d2⟩ := c3V HY.out
  obtain ⟨f0, f1, f2⟩ := f3V HX.out
  obtain ⟨g0, g1, g2⟩ := f3V HY.out
  go_wp2_with fail
  refine wp_region_grow 6 1 (· < 6) (by kernel_rfl) (by kernel_rfl) rfl ?_
  iterate 6 (refine wpG_step (fun K hK => ?_); first | (refine grow_skip rfl ?_; go_simp; refine hK _ ?_; clear hK K) | (apply Exists.intro; refine ⟨.inl ⟨rfl, fun w' hw' => ?_⟩, ?_⟩; (focus ((obtain ⟨hc, hf⟩ := bcell hw'.out); (have hcS := bcellS hw'.out); go_simp <;> first | rfl | (go_at_call 22; exact thou_V _ _ _ g21 g22 g4 g5) | (go_at_call 21; exact from_v _ _ _ _ _ k1 k2))); (go_simp; refine hK _ ?_; clear hK K)))
  refine wpG_nil ?_
  refine wpK_tail (by kernel_rfl) (fun w9 hg9 => ?_)
  have hb9 := bdrewn hg9.out
  obtain ⟨hc9, hf9⟩ := bcell hb9
  refine wpAny_one (i := 6) (by kernel_rfl) rfl rfl ?_
  go_simp
  refine wpAny_end (by kernel_rfl) ?_
  refine NoPan.thn ?_
  clear hc9 hf9
  clear hg9
  go_wp2
  refine bpV (fun W => W.heap[w.heap.size + 1]? = some (.cells #[.int .i64 (t), .int .i64 (p), .int .i64 (frV t p (thV n t))] 24 (0, 0)) ∧ Below w.heap.size w W) ⟨put3V ((hb9.block _ (ltV HY.out)).trans HY.out) (.int .i64 (t)) (.int .i64 (p)) (.int .i64 (frV t p (thV n t))), put3b (bkeep2 HB.out hb9) (by omega) (.int .i64 (t)) (.int .i64 (p)) (.int .i64 (frV t p (thV n t)))⟩ ?_
  clear HX HY HB hb9
  clear c0 c1 c2 d0 d1 d2 f0 f1 f2 g0 g1 g2
  rintro W ⟨hy, hB⟩
  obtain ⟨d0, d1, d2⟩ := c3V hy
  exact bodyPost_ret (v := .agg #[.int .i64 (t), .int .i64 (p), .int .i64 (frV t p (thV n t))]) (by simp only [results, Try.results7]; go_simp) rfl ⟨rfl, hB⟩
set_option maxRecDepth 100000 in
theorem sMoveTo_no (t p f n : Int) (w : World) (h : vwB t p f = false ∨ (vwB t p f = true ∧ rng n 0 1000 = false)) : Calls Try.prog 9 #[.agg #[.int .i64 (t), .int .i64 (p), .int .i64 (f)], .int .i64 n] w fun e w' => e = .returned (.agg #[.int .i64 (0), .int .i64 (0), .int .i64 (0)]) ∧ Below w.heap.size w w' := by
  rcases h with h | ⟨h, h2⟩
  · go_enter Try.func9, Try.ntmps9
    go_upto_region 1 with (fail)
    refine wp_V (fun W => W.heap[w.heap.size]? = some (.cells #[.int .i64 (t), .int .i64 (p), .int .i64 (f)] 24 (0, 0)) ∧ W.heap[w.heap.size + 1]? = some (.cells #[.int .i64 (0), .int .i64 (0), .int .i64 (0)] 24 (0, 0)) ∧ Below w.heap.size w W) ⟨oldV _ _ _, newV1 _ _ _, balloc (balloc (Below.refl _ _))⟩ ?_
    rintro w0 ⟨hx, hy, hB⟩
    have HX := Lib.hid hx
    have HY := Lib.hid hy
    have HB := Lib.hid hB
    have hl0 := ltV hy
    clear hx hy hB
    obtain ⟨c0, c1, c2⟩ := c3V HX.out
    obtain ⟨d0, d1, d2⟩ := c3V HY.out
    obtain ⟨f0, f1, f2⟩ := f3V HX.out
    obtain ⟨g0, g1, g2⟩ := f3V HY.out
    go_wp2_with fail
    with_reducible refine (svalidView_v _ _ _ false _ h).mono ?_
    rintro e w1 ⟨rfl, hb⟩
    clear c0 c1 c2 d0 d1 d2 f0 f1 f2 g0 g1 g2
    replace HX := Lib.hid ((hb.block _ (ltV HX.out)).trans HX.out)
    replace HY := Lib.hid ((hb.block _ (ltV HY.out)).trans HY.out)
    replace HB := Lib.hid (bkeep2 HB.out hb)
    have hl1 := 0
    clear hb hl0 hl1
    have hl0 := ltV HY.out
    obtain ⟨c0, c1, c2⟩ := c3V HX.out
    obtain ⟨d0, d1, d2⟩ := c3V HY.out
    obtain ⟨f0, f1, f2⟩ := f3V HX.out
    obtain ⟨g0, g1, g2⟩ := f3V HY.out
    go_wp2
    refine bpV (fun W => W.heap[w.heap.size + 1]? = some (.cells #[.int .i64 (0), .int .i64 (0), .int .i64 (0)] 24 (0, 0)) ∧ Below w.heap.size w W) ⟨put3V HY.out (.int .i64 (0)) (.int .i64 (0)) (.int .i64 (0)), put3b HB.out (by omega) (.int .i64 (0)) (.int .i64 (0)) (.int .i64 (0))⟩ ?_
    clear HX HY HB
    clear c0 c1 c2 d0 d1 d2 f0 f1 f2 g0 g1 g2
    rintro W ⟨hy, hB⟩
    obtain ⟨d0, d1, d2⟩ := c3V hy
    exact bodyPost_ret (v := .agg #[.int .i64 (0), .int .i64 (0), .int .i64 (0)]) (by simp only [results, Try.results9]; go_simp) rfl ⟨rfl, hB⟩

  · go_enter Try.func9, Try.ntmps9
    go_upto_region 1 with (fail)
    refine wp_V (fun W => W.heap[w.heap.size]? = some (.cells #[.int .i64 (t), .int .i64 (p), .int .i64 (f)] 24 (0, 0)) ∧ W.heap[w.heap.size + 1]? = some (.cells #[.int .i64 (0), .int .i64 (0), .int .i64 (0)] 24 (0, 0)) ∧ Below w.heap.size w W) ⟨oldV _ _ _, newV1 _ _ _, balloc (balloc (Below.refl _ _))⟩ ?_
    rintro w0 ⟨hx, hy, hB⟩
    have HX := Lib.hid hx
    have HY := Lib.hid hy
    have HB := Lib.hid hB
    have hl0 := ltV hy
    clear hx hy hB
    obtain ⟨c0, c1, c2⟩ := c3V HX.out
    obtain ⟨d0, d1, d2⟩ := c3V HY.out
    obtain ⟨f0, f1, f2⟩ := f3V HX.out
    obtain ⟨g0, g1, g2⟩ := f3V HY.out
    go_wp2_with fail
    with_reducible refine (svalidView_v _ _ _ true _ h).mono ?_
    rintro e w1 ⟨rfl, hb⟩
    clear c0 c1 c2 d0 d1 d2 f0 f1 f2 g0 g1 g2
    replace HX := Lib.hid ((hb.block _ (ltV HX.out)).trans HX.out)
    replace HY := Lib.hid ((hb.block _ (ltV HY.out)).trans HY.out)
    replace HB := Lib.hid (bkeep2 HB.out hb)
    have hl1 := 0
    clear hb hl0 hl1
    have hl0 := ltV HY.out
    obtain ⟨c0, c1, c2⟩ := c3V HX.out
    obtain ⟨d0, d1, d2⟩ := c3V HY.out
    obtain ⟨f0, f1, f2⟩ := f3V HX.out
    obtain ⟨g0, g1, g2⟩ := f3V HY.out
    go_wp2_with fail
    with_reducible refine (inRange_V _ _ _ false _ h2).mono ?_
    rintro e w1 ⟨rfl, hb⟩
    clear c0 c1 c2 d0 d1 d2 f0 f1 f2 g0 g1 g2
    replace HX := Lib.hid ((hb.block _ (ltV HX.out)).trans HX.out)
    replace HY := Lib.hid ((hb.block _ (ltV HY.out)).trans HY.out)
    replace HB := Lib.hid (bkeep2 HB.out hb)
    have hl1 := 0
    clear hb hl0 hl1
    have hl0 := ltV HY.out
    obtain ⟨c0, c1, c2⟩ := c3V HX.out
    obtain ⟨d0, d1, d2⟩ := c3V HY.out
    obtain ⟨f0, f1, f2⟩ := f3V HX.out
    obtain ⟨g0, g1, g2⟩ := f3V HY.out
    go_wp2
    refine bpV (fun W => W.heap[w.heap.size + 1]? = some (.cells #[.int .i64 (0), .int .i64 (0), .int .i64 (0)] 24 (0, 0)) ∧ Below w.heap.size w W) ⟨put3V HY.out (.int .i64 (0)) (.int .i64 (0)) (.int .i64 (0)), put3b HB.out (by omega) (.int .i64 (0)) (.int .i64 (0)) (.int .i64 (0))⟩ ?_
    clear HX HY HB
    clear c0 c1 c2 d0 d1 d2 f0 f1 f2 g0 g1 g2
    rintro W ⟨hy, hB⟩
    obtain ⟨d0, d1, d2⟩ := c3V hy
    exact bodyPost_ret (v := .agg #[.int .i64 (0), .int .i64 (0), .int .i64 (0)]) (by simp only [results, Try.results9]; go_simp) rfl ⟨rfl, hB⟩

set_option maxRecDepth 100000 in
theorem sMoveTo_yes (t p f n : Int) (w : World) (h : vwB t p f = true) (h2 : rng n 0 1000 = true) : Calls Try.prog 9 #[.agg #[.int .i64 (t), .int .i64 (p), .int .i64 (f)], .int .i64 n] w fun e w' => e = .returned (.agg #[.int .i64 (t), .int .i64 (p), .int .i64 (frV t p (thV n t))]) ∧ Below w.heap.size w w' := by
  have g1 := vwB_iff.1 h
  have k1 : -1000 ≤ t ∧ t ≤ 1000 := by omega
  have k2 : -1000 ≤ p ∧ p ≤ 1000 := by omega
  have g2 := rng_iff.1 h2
  obtain ⟨g21, g22⟩ := g2
  have g4 : 0 ≤ t := by omega
  have g5 : t ≤ 1000 := by omega
  clear g1
  go_enter Try.func9, Try.ntmps9
  go_upto_region 1 with (fail)
  refine wp_V (fun W => W.heap[w.heap.size]? = some (.cells #[.int .i64 (t), .int .i64 (p), .int .i64 (f)] 24 (0, 0)) ∧ W.heap[w.heap.size + 1]? = some (.cells #[.int .i64 (0), .int .i64 (0), .int .i64 (0)] 24 (0, 0)) ∧ Below w.heap.size w W) ⟨oldV _ _ _, newV1 _ _ _, balloc (balloc (Below.refl _ _))⟩ ?_
  rintro w0 ⟨hx, hy, hB⟩
  have HX := Lib.hid hx
  have HY := Lib.hid hy
  have HB := Lib.hid hB
  have hl0 := ltV hy
  clear hx hy hB
  obtain ⟨c0, c1, c2⟩ := c3V HX.out
  obtain ⟨d0, d1, d2⟩ := c3V HY.out
  obtain ⟨f0, f1, f2⟩ := f3V HX.out
  obtain ⟨g0, g1, g2⟩ := f3V HY.out
  go_wp2_with fail
  with_reducible refine (svalidView_v _ _ _ true _ h).mono ?_
  rintro e w1 ⟨rfl, hb⟩
  clear c0 c1 c2 d0 d1 d2 f0 f1 f2 g0 g1 g2
  replace HX := Lib.hid ((hb.block _ (ltV HX.out)).trans HX.out)
  replace HY := Lib.hid ((hb.block _ (ltV HY.out)).trans HY.out)
  replace HB := Lib.hid (bkeep2 HB.out hb)
  have hl1 := 0
  clear hb hl0 hl1
  have hl0 := ltV HY.out
  obtain ⟨c0, c1, c2⟩ := c3V HX.out
  obtain ⟨d0, d1, d2⟩ := c3V HY.out
  obtain ⟨f0, f1, f2⟩ := f3V HX.out
  obtain ⟨g0, g1, g2⟩ := f3V HY.out
  go_wp2_with fail
  with_reducible refine (inRange_V _ _ _ true _ h2).mono ?_
  rintro e w1 ⟨rfl, hb⟩
  clear c0 c1 c2 d0 d1 d2 f0 f1 f2 g0 g1 g2
  replace HX := Lib.hid ((hb.block _ (ltV HX.out)).trans HX.out)
  replace HY := Lib.hid ((hb.block _ (ltV HY.out)).trans HY.out)
  replace HB := Lib.hid (bkeep2 HB.out hb)
  have hl1 := 0
  clear hb hl0 hl1
  have hl0 := ltV HY.out
  obtain ⟨c0, c1, c2⟩ := c3V HX.out
  obtain ⟨d0, d1, d2⟩ := c3V HY.out
  obtain ⟨f0, f1, f2⟩ := f3V HX.out
  obtain ⟨g0, g1, g2⟩ := f3V HY.out
  go_wp2_with fail
  refine wp_region_grow 6 1 (· < 6) (by kernel_rfl) (by kernel_rfl) rfl ?_
  iterate 6 (refine wpG_step (fun K hK => ?_); first | (refine grow_skip rfl ?_; go_simp; refine hK _ ?_; clear hK K) | (apply Exists.intro; refine ⟨.inl ⟨rfl, fun w' hw' => ?_⟩, ?_⟩; (focus ((obtain ⟨hc, hf⟩ := bcell hw'.out); (have hcS := bcellS hw'.out); go_simp <;> first | rfl | (go_at_call 26; exact part_V _ _ _ g21 g22 g4 g5) | (go_at_call 25; exact clamped_v _ _ _ _ _ k1 k2))); (go_simp; refine hK _ ?_; clear hK K)))
  refine wpG_nil ?_
  refine wpK_tail (by kernel_rfl) (fun w9 hg9 => ?_)
  have hb9 := bdrewn hg9.out
  obtain ⟨hc9, hf9⟩ := bcell hb9
  refine wpAny_one (i := 6) (by kernel_rfl) rfl rfl ?_
  go_simp
  refine wpAny_end (by kernel_rfl) ?_
  refine NoPan.thn ?_
  clear hc9 hf9
  clear hg9
  go_wp2
  refine bpV (fun W => W.heap[w.heap.size + 1]? = some (.cells #[.int .i64 (t), .int .i64 (p), .int .i64 (frV t p (thV n t))] 24 (0, 0)) ∧ Below w.heap.size w W) ⟨put3V ((hb9.block _ (ltV HY.out)).trans HY.out) (.int .i64 (t)) (.int .i64 (p)) (.int .i64 (frV t p (thV n t))), put3b (bkeep2 HB.out hb9) (by omega) (.int .i64 (t)) (.int .i64 (p)) (.int .i64 (frV t p (thV n t)))⟩ ?_
  clear HX HY HB hb9
  clear c0 c1 c2 d0 d1 d2 f0 f1 f2 g0 g1 g2
  rintro W ⟨hy, hB⟩
  obtain ⟨d0, d1, d2⟩ := c3V hy
  exact bodyPost_ret (v := .agg #[.int .i64 (t), .int .i64 (p), .int .i64 (frV t p (thV n t))]) (by simp only [results, Try.results9]; go_simp) rfl ⟨rfl, hB⟩
end Go.Proofs.Ytpbfbcdidkbjiad
end
section
namespace Go.Proofs.Ytpbfbcdidkbjiad
open Go.RowKit
set_option linter.unusedVariables false
set_option maxHeartbeats 1000000
attribute [local go_sem 5000] run_mx run_mn
attribute [local go_sem] growUpon_value growUpon_skip growUpon_enter
set_option maxRecDepth 100000 in
theorem SeeLine_no (t p f n : Int) (w : World) (h : vwB t p f = false ∨ (vwB t p f = true ∧ rng n 0 (t - 1) = false)) : Calls Try.prog 12 #[.agg #[.int .i64 (t), .int .i64 (p), .int .i64 (f)], .int .i64 n] w fun e w' => e = .returned (.agg #[.int .i64 (0), .int .i64 (0), .int .i64 (0)]) ∧ Below w.heap.size w w' := by
  rcases h with h | ⟨h, h2⟩
  · go_enter Try.func12, Try.ntmps12
    go_upto_region 1 with (fail)
    refine wp_V (fun W => W.heap[w.heap.size]? = some (.cells #[.int .i64 (t), .int .i64 (p), .int .i64 (f)] 24 (0, 0)) ∧ W.heap[w.heap.size + 1]? = some (.cells #[.int .i64 (0), .int .i64 (0), .int .i64 (0)] 24 (0, 0)) ∧ Below w.heap.size w W) ⟨oldV _ _ _, newV1 _ _ _, balloc (balloc (Below.refl _ _))⟩ ?_
    rintro w0 ⟨hx, hy, hB⟩
    have HX := Lib.hid hx
    have HY := Lib.hid hy
    have HB := Lib.hid hB
    have hl0 := ltV hy
    clear hx hy hB
    obtain ⟨c0, c1, c2⟩ := c3V HX.out
    obtain ⟨d0, d1, d2⟩ := c3V HY.out
    obtain ⟨f0, f1, f2⟩ := f3V HX.out
    obtain ⟨g0, g1, g2⟩ := f3V HY.out
    go_wp2_with fail
    with_reducible refine (ValidView_v _ _ _ false _ h).mono ?_
    rintro e w1 ⟨rfl, hb⟩
    clear c0 c1 c2 d0 d1 d2 f0 f1 f2 g0 g1 g2
    replace HX := Lib.hid ((hb.block _ (ltV HX.out)).trans HX.out)
    replace HY := Lib.hid ((hb.block _ (ltV HY.out)).trans HY.out)
    replace HB := Lib.hid (bkeep2 HB.out hb)
    have hl1 := 0
    clear hb hl0 hl1
    have hl0 := ltV HY.out
    obtain ⟨c0, c1, c2⟩ := c3V HX.out
    obtain ⟨d0, d1, d2⟩ := c3V HY.out
    obtain ⟨f0, f1, f2⟩ := f3V HX.out
    obtain ⟨g0, g1, g2⟩ := f3V HY.out
    go_wp2
    refine bpV (fun W => W.heap[w.heap.size + 1]? = some (.cells #[.int .i64 (0), .int .i64 (0), .int .i64 (0)] 24 (0, 0)) ∧ Below w.heap.size w W) ⟨put3V HY.out (.int .i64 (0)) (.int .i64 (0)) (.int .i64 (0)), put3b HB.out (by omega) (.int .i64 (0)) (.int .i64 (0)) (.int .i64 (0))⟩ ?_
    clear HX HY HB
    clear c0 c1 c2 d0 d1 d2 f0 f1 f2 g0 g1 g2
    rintro W ⟨hy, hB⟩
    obtain ⟨d0, d1, d2⟩ := c3V hy
    exact bodyPost_ret (v := .agg #[.int .i64 (0), .int .i64 (0), .int .i64 (0)]) (by simp only [results, Try.results12]; go_simp) rfl ⟨rfl, hB⟩

  · have g1 := vwB_iff.1 h
    obtain ⟨⟨g11, g12⟩, ⟨g13, g14⟩, g15⟩ := g1
    go_enter Try.func12, Try.ntmps12
    go_upto_region 1 with (fail)
    refine wp_V (fun W => W.heap[w.heap.size]? = some (.cells #[.int .i64 (t), .int .i64 (p), .int .i64 (f)] 24 (0, 0)) ∧ W.heap[w.heap.size + 1]? = some (.cells #[.int .i64 (0), .int .i64 (0), .int .i64 (0)] 24 (0, 0)) ∧ Below w.heap.size w W) ⟨oldV _ _ _, newV1 _ _ _, balloc (balloc (Below.refl _ _))⟩ ?_
    rintro w0 ⟨hx, hy, hB⟩
    have HX := Lib.hid hx
    have HY := Lib.hid hy
    have HB := Lib.hid hB
    have hl0 := ltV hy
    clear hx hy hB
    obtain ⟨c0, c1, c2⟩ := c3V HX.out
    obtain ⟨d0, d1, d2⟩ := c3V HY.out
    obtain ⟨f0, f1, f2⟩ := f3V HX.out
    obtain ⟨g0, g1, g2⟩ := f3V HY.out
    go_wp2_with fail
    with_reducible refine (ValidView_v _ _ _ true _ h).mono ?_
    rintro e w1 ⟨rfl, hb⟩
    clear c0 c1 c2 d0 d1 d2 f0 f1 f2 g0 g1 g2
    replace HX := Lib.hid ((hb.block _ (ltV HX.out)).trans HX.out)
    replace HY := Lib.hid ((hb.block _ (ltV HY.out)).trans HY.out)
    replace HB := Lib.hid (bkeep2 HB.out hb)
    have hl1 := 0
    clear hb hl0 hl1
    have hl0 := ltV HY.out
    obtain ⟨c0, c1, c2⟩ := c3V HX.out
    obtain ⟨d0, d1, d2⟩ := c3V HY.out
    obtain ⟨f0, f1, f2⟩ := f3V HX.out
    obtain ⟨g0, g1, g2⟩ := f3V HY.out
    go_wp2_with fail
    with_reducible refine (within_V _ _ _ false _ h2).mono ?_
    rintro e w1 ⟨rfl, hb⟩
    clear c0 c1 c2 d0 d1 d2 f0 f1 f2 g0 g1 g2
    replace HX := Lib.hid ((hb.block _ (ltV HX.out)).trans HX.out)
    replace HY := Lib.hid ((hb.block _ (ltV HY.out)).trans HY.out)
    replace HB := Lib.hid (bkeep2 HB.out hb)
    have hl1 := 0
    clear hb hl0 hl1
    have hl0 := ltV HY.out
    obtain ⟨c0, c1, c2⟩ := c3V HX.out
    obtain ⟨d0, d1, d2⟩ := c3V HY.out
    obtain ⟨f0, f1, f2⟩ := f3V HX.out
    obtain ⟨g0, g1, g2⟩ := f3V HY.out
    go_wp2
    refine bpV (fun W => W.heap[w.heap.size + 1]? = some (.cells #[.int .i64 (0), .int .i64 (0), .int .i64 (0)] 24 (0, 0)) ∧ Below w.heap.size w W) ⟨put3V HY.out (.int .i64 (0)) (.int .i64 (0)) (.int .i64 (0)), put3b HB.out (by omega) (.int .i64 (0)) (.int .i64 (0)) (.int .i64 (0))⟩ ?_
    clear HX HY HB
    clear c0 c1 c2 d0 d1 d2 f0 f1 f2 g0 g1 g2
    rintro W ⟨hy, hB⟩
    obtain ⟨d0, d1, d2⟩ := c3V hy
    exact bodyPost_ret (v := .agg #[.int .i64 (0), .int .i64 (0), .int .i64 (0)]) (by simp only [results, Try.results12]; go_simp) rfl ⟨rfl, hB⟩

set_option maxRecDepth 100000 in
theorem SeeLine_yes (t p f n : Int) (w : World) (h : vwB t p f = true) (h2 : rng n 0 (t - 1) = true) : Calls Try.prog 12 #[.agg #[.int .i64 (t), .int .i64 (p), .int .i64 (f)], .int .i64 n] w fun e w' => e = .returned (.agg #[.int .i64 (t), .int .i64 (p), .int .i64 (seV t p f n)]) ∧ Below w.heap.size w w' := by
  have g1 := vwB_iff.1 h
  have k1 : -1000 ≤ t ∧ t ≤ 1000 := by omega
  have k2 : -1000 ≤ p ∧ p ≤ 1000 := by omega
  have g2 := rng_iff.1 h2
  obtain ⟨g21, g22⟩ := g2
  have g3 := enV_spec t p
  have g4 : 0 ≤ f := by omega
  have g5 : f ≤ 500 := by omega
  have g6 : n ≤ 500 := by omega
  obtain ⟨⟨g11, g12⟩, ⟨g13, g14⟩, g15⟩ := g1
  have wp1 : IntKind.i64.wrap (n - p) = n - p := IntWalk.i64_in _ (by omega)
  have wp2 : IntKind.i64.wrap (n - p + 1) = n - p + 1 := IntWalk.i64_in _ (by omega)
  clear g3 g15
  go_enter Try.func12, Try.ntmps12
  go_upto_region 1 with (fail)
  refine wp_V (fun W => W.heap[w.heap.size]? = some (.cells #[.int .i64 (t), .int .i64 (p), .int .i64 (f)] 24 (0, 0)) ∧ W.heap[w.heap.size + 1]? = some (.cells #[.int .i64 (0), .int .i64 (0), .int .i64 (0)] 24 (0, 0)) ∧ Below w.heap.size w W) ⟨oldV _ _ _, newV1 _ _ _, balloc (balloc (Below.refl _ _))⟩ ?_
  rintro w0 ⟨hx, hy, hB⟩
  have HX := Lib.hid hx
  have HY := Lib.hid hy
  have HB := Lib.hid hB
  have hl0 := ltV hy
  clear hx hy hB
  obtain ⟨c0, c1, c2⟩ := c3V HX.out
  obtain ⟨d0, d1, d2⟩ := c3V HY.out
  obtain ⟨f0, f1, f2⟩ := f3V HX.out
  obtain ⟨g0, g1, g2⟩ := f3V HY.out
  go_wp2_with fail
  with_reducible refine (ValidView_v _ _ _ true _ h).mono ?_
  rintro e w1 ⟨rfl, hb⟩
  clear c0 c1 c2 d0 d1 d2 f0 f1 f2 g0 g1 g2
  replace HX := Lib.hid ((hb.block _ (ltV HX.out)).trans HX.out)
  replace HY := Lib.hid ((hb.block _ (ltV HY.out)).trans HY.out)
  replace HB := Lib.hid (bkeep2 HB.out hb)
  have hl1 := 0
  clear hb hl0 hl1
  have hl0 := ltV HY.out
  obtain ⟨c0, c1, c2⟩ := c3V HX.out
  obtain ⟨d0, d1, d2⟩ := c3V HY.out
  obtain ⟨f0, f1, f2⟩ := f3V HX.out
  obtain ⟨g0, g1, g2⟩ := f3V HY.out
  go_wp2_with fail
  with_reducible refine (within_V _ _ _ true _ h2).mono ?_
  rintro e w1 ⟨rfl, hb⟩
  clear c0 c1 c2 d0 d1 d2 f0 f1 f2 g0 g1 g2
  replace HX := Lib.hid ((hb.block _ (ltV HX.out)).trans HX.out)
  replace HY := Lib.hid ((hb.block _ (ltV HY.out)).trans HY.out)
  replace HB := Lib.hid (bkeep2 HB.out hb)
  have hl1 := 0
  clear hb hl0 hl1
  have hl0 := ltV HY.out
  obtain ⟨c0, c1, c2⟩ := c3V HX.out
  obtain ⟨d0, d1, d2⟩ := c3V HY.out
  obtain ⟨f0, f1, f2⟩ := f3V HX.out
  obtain ⟨g0, g1, g2⟩ := f3V HY.out
  go_wp2_with fail
  refine wp_region_grow 11 1 (· < 11) (by kernel_rfl) (by kernel_rfl) rfl ?_
  iterate 11 (refine wpG_step (fun K hK => ?_); first | (refine grow_skip rfl ?_; go_simp; refine hK _ ?_; clear hK K) | (apply Exists.intro; refine ⟨.inl ⟨rfl, fun w' hw' => ?_⟩, ?_⟩; (focus ((obtain ⟨hc, hf⟩ := bcell hw'.out); (have hcS := bcellS hw'.out); go_simp <;> first | rfl | (go_at_call 30; exact nearest_v _ _ _ _) | (go_at_call 21; exact from_v _ _ _ _ _ k1 k2))); (go_simp; refine hK _ ?_; clear hK K)))
  refine wpG_nil ?_
  refine wpK_tail (by kernel_rfl) (fun w9 hg9 => ?_)
  have hb9 := bdrewn hg9.out
  obtain ⟨hc9, hf9⟩ := bcell hb9
  refine wpAny_one (i := 11) (by kernel_rfl) rfl rfl ?_
  go_simp
  refine wpAny_end (by kernel_rfl) ?_
  refine NoPan.thn ?_
  clear hc9 hf9
  clear hg9
  go_wp2
  refine bpV (fun W => W.heap[w.heap.size + 1]? = some (.cells #[.int .i64 (t), .int .i64 (p), .int .i64 (seV t p f n)] 24 (0, 0)) ∧ Below w.heap.size w W) ⟨put3V ((hb9.block _ (ltV HY.out)).trans HY.out) (.int .i64 (t)) (.int .i64 (p)) (.int .i64 (seV t p f n)), put3b (bkeep2 HB.out hb9) (by omega) (.int .i64 (t)) (.int .i64 (p)) (.int .i64 (seV t p f n))⟩ ?_
  clear HX HY HB hb9
  clear c0 c1 c2 d0 d1 d2 f0 f1 f2 g0 g1 g2
  rintro W ⟨hy, hB⟩
  obtain ⟨d0, d1, d2⟩ := c3V hy
  exact bodyPost_ret (v := .agg #[.int .i64 (t), .int .i64 (p), .int .i64 (seV t p f n)]) (by simp only [results, Try.results12]; go_simp) rfl ⟨rfl, hB⟩
set_option maxRecDepth 100000 in
theorem sSeeLine_no (t p f n : Int) (w : World) (h : vwB t p f = false ∨ (vwB t p f = true ∧ rng n 0 (t - 1) = false)) : Calls Try.prog 13 #[.agg #[.int .i64 (t), .int .i64 (p), .int .i64 (f)], .int .i64 n] w fun e w' => e = .returned (.agg #[.int .i64 (0), .int .i64 (0), .int .i64 (0)]) ∧ Below w.heap.size w w' := by
  rcases h with h | ⟨h, h2⟩
  · go_enter Try.func13, Try.ntmps13
    go_upto_region 1 with (fail)
    refine wp_V (fun W => W.heap[w.heap.size]? = some (.cells #[.int .i64 (t), .int .i64 (p), .int .i64 (f)] 24 (0, 0)) ∧ W.heap[w.heap.size + 1]? = some (.cells #[.int .i64 (0), .int .i64 (0), .int .i64 (0)] 24 (0, 0)) ∧ Below w.heap.size w W) ⟨oldV _ _ _, newV1 _ _ _, balloc (balloc (Below.refl _ _))⟩ ?_
    rintro w0 ⟨hx, hy, hB⟩
    have HX := Lib.hid hx
    have HY := Lib.hid hy
    have HB := Lib.hid hB
    have hl0 := ltV hy
    clear hx hy hB
    obtain ⟨c0, c1, c2⟩ := c3V HX.out
    obtain ⟨d0, d1, d2⟩ := c3V HY.out
    obtain ⟨f0, f1, f2⟩ := f3V HX.out
    obtain ⟨g0, g1, g2⟩ := f3V HY.out
    go_wp2_with fail
    with_reducible refine (svalidView_v _ _ _ false _ h).mono ?_
    rintro e w1 ⟨rfl, hb⟩
    clear c0 c1 c2 d0 d1 d2 f0 f1 f2 g0 g1 g2
    replace HX := Lib.hid ((hb.block _ (ltV HX.out)).trans HX.out)
    replace HY := Lib.hid ((hb.block _ (ltV HY.out)).trans HY.out)
    replace HB := Lib.hid (bkeep2 HB.out hb)
    have hl1 := 0
    clear hb hl0 hl1
    have hl0 := ltV HY.out
    obtain ⟨c0, c1, c2⟩ := c3V HX.out
    obtain ⟨d0, d1, d2⟩ := c3V HY.out
    obtain ⟨f0, f1, f2⟩ := f3V HX.out
    obtain ⟨g0, g1, g2⟩ := f3V HY.out
    go_wp2
    refine bpV (fun W => W.heap[w.heap.size + 1]? = some (.cells #[.int .i64 (0), .int .i64 (0), .int .i64 (0)] 24 (0, 0)) ∧ Below w.heap.size w W) ⟨put3V HY.out (.int .i64 (0)) (.int .i64 (0)) (.int .i64 (0)), put3b HB.out (by omega) (.int .i64 (0)) (.int .i64 (0)) (.int .i64 (0))⟩ ?_
    clear HX HY HB
    clear c0 c1 c2 d0 d1 d2 f0 f1 f2 g0 g1 g2
    rintro W ⟨hy, hB⟩
    obtain ⟨d0, d1, d2⟩ := c3V hy
    exact bodyPost_ret (v := .agg #[.int .i64 (0), .int .i64 (0), .int .i64 (0)]) (by simp only [results, Try.results13]; go_simp) rfl ⟨rfl, hB⟩

  · have g1 := vwB_iff.1 h
    obtain ⟨⟨g11, g12⟩, ⟨g13, g14⟩, g15⟩ := g1
    go_enter Try.func13, Try.ntmps13
    go_upto_region 1 with (fail)
    refine wp_V (fun W => W.heap[w.heap.size]? = some (.cells #[.int .i64 (t), .int .i64 (p), .int .i64 (f)] 24 (0, 0)) ∧ W.heap[w.heap.size + 1]? = some (.cells #[.int .i64 (0), .int .i64 (0), .int .i64 (0)] 24 (0, 0)) ∧ Below w.heap.size w W) ⟨oldV _ _ _, newV1 _ _ _, balloc (balloc (Below.refl _ _))⟩ ?_
    rintro w0 ⟨hx, hy, hB⟩
    have HX := Lib.hid hx
    have HY := Lib.hid hy
    have HB := Lib.hid hB
    have hl0 := ltV hy
    clear hx hy hB
    obtain ⟨c0, c1, c2⟩ := c3V HX.out
    obtain ⟨d0, d1, d2⟩ := c3V HY.out
    obtain ⟨f0, f1, f2⟩ := f3V HX.out
    obtain ⟨g0, g1, g2⟩ := f3V HY.out
    go_wp2_with fail
    with_reducible refine (svalidView_v _ _ _ true _ h).mono ?_
    rintro e w1 ⟨rfl, hb⟩
    clear c0 c1 c2 d0 d1 d2 f0 f1 f2 g0 g1 g2
    replace HX := Lib.hid ((hb.block _ (ltV HX.out)).trans HX.out)
    replace HY := Lib.hid ((hb.block _ (ltV HY.out)).trans HY.out)
    replace HB := Lib.hid (bkeep2 HB.out hb)
    have hl1 := 0
    clear hb hl0 hl1
    have hl0 := ltV HY.out
    obtain ⟨c0, c1, c2⟩ := c3V HX.out
    obtain ⟨d0, d1, d2⟩ := c3V HY.out
    obtain ⟨f0, f1, f2⟩ := f3V HX.out
    obtain ⟨g0, g1, g2⟩ := f3V HY.out
    go_wp2_with fail
    with_reducible refine (inRange_V _ _ _ false _ h2).mono ?_
    rintro e w1 ⟨rfl, hb⟩
    clear c0 c1 c2 d0 d1 d2 f0 f1 f2 g0 g1 g2
    replace HX := Lib.hid ((hb.block _ (ltV HX.out)).trans HX.out)
    replace HY := Lib.hid ((hb.block _ (ltV HY.out)).trans HY.out)
    replace HB := Lib.hid (bkeep2 HB.out hb)
    have hl1 := 0
    clear hb hl0 hl1
    have hl0 := ltV HY.out
    obtain ⟨c0, c1, c2⟩ := c3V HX.out
    obtain ⟨d0, d1, d2⟩ := c3V HY.out
    obtain ⟨f0, f1, f2⟩ := f3V HX.out
    obtain ⟨g0, g1, g2⟩ := f3V HY.out
    go_wp2
    refine bpV (fun W => W.heap[w.heap.size + 1]? = some (.cells #[.int .i64 (0), .int .i64 (0), .int .i64 (0)] 24 (0, 0)) ∧ Below w.heap.size w W) ⟨put3V HY.out (.int .i64 (0)) (.int .i64 (0)) (.int .i64 (0)), put3b HB.out (by omega) (.int .i64 (0)) (.int .i64 (0)) (.int .i64 (0))⟩ ?_
    clear HX HY HB
    clear c0 c1 c2 d0 d1 d2 f0 f1 f2 g0 g1 g2
    rintro W ⟨hy, hB⟩
    obtain ⟨d0, d1, d2⟩ := c3V hy
    exact bodyPost_ret (v := .agg #[.int .i64 (0), .int .i64 (0), .int .i64 (0)]) (by simp only [results, Try.results13]; go_simp) rfl ⟨rfl, hB⟩

set_option maxRecDepth 100000 in
theorem sSeeLine_yes (t p f n : Int) (w : World) (h : vwB t p f = true) (h2 : rng n 0 (t - 1) = true) : Calls Try.prog 13 #[.agg #[.int .i64 (t), .int .i64 (p), .int .i64 (f)], .int .i64 n] w fun e w' => e = .returned (.agg #[.int .i64 (t), .int .i64 (p), .int .i64 (seV t p f n)]) ∧ Below w.heap.size w w' := by
  have g1 := vwB_iff.1 h
  have k1 : -1000 ≤ t ∧ t ≤ 1000 := by omega
  have k2 : -1000 ≤ p ∧ p ≤ 1000 := by omega
  have g2 := rng_iff.1 h2
  obtain ⟨g21, g22⟩ := g2
  have g3 := enV_spec t p
  have g4 : 0 ≤ f := by omega
  have g5 : f ≤ 500 := by omega
  have g6 : n ≤ 500 := by omega
  obtain ⟨⟨g11, g12⟩, ⟨g13, g14⟩, g15⟩ := g1
  have wp1 : IntKind.i64.wrap (n - p) = n - p := IntWalk.i64_in _ (by omega)
  have wp2 : IntKind.i64.wrap (n - p + 1) = n - p + 1 := IntWalk.i64_in _ (by omega)
  have HF := Lib.hid g15.2
  clear g3 g15
  go_enter Try.func13, Try.ntmps13
  go_upto_region 1 with (fail)
  refine wp_V (fun W => W.heap[w.heap.size]? = some (.cells #[.int .i64 (t), .int .i64 (p), .int .i64 (f)] 24 (0, 0)) ∧ W.heap[w.heap.size + 1]? = some (.cells #[.int .i64 (0), .int .i64 (0), .int .i64 (0)] 24 (0, 0)) ∧ Below w.heap.size w W) ⟨oldV _ _ _, newV1 _ _ _, balloc (balloc (Below.refl _ _))⟩ ?_
  rintro w0 ⟨hx, hy, hB⟩
  have HX := Lib.hid hx
  have HY := Lib.hid hy
  have HB := Lib.hid hB
  have hl0 := ltV hy
  clear hx hy hB
  obtain ⟨c0, c1, c2⟩ := c3V HX.out
  obtain ⟨d0, d1, d2⟩ := c3V HY.out
  obtain ⟨f0, f1, f2⟩ := f3V HX.out
  obtain ⟨g0, g1, g2⟩ := f3V HY.out
  go_wp2_with fail
  with_reducible refine (svalidView_v _ _ _ true _ h).mono ?_
  rintro e w1 ⟨rfl, hb⟩
  clear c0 c1 c2 d0 d1 d2 f0 f1 f2 g0 g1 g2
  replace HX := Lib.hid ((hb.block _ (ltV HX.out)).trans HX.out)
  replace HY := Lib.hid ((hb.block _ (ltV HY.out)).trans HY.out)
  replace HB := Lib.hid (bkeep2 HB.out hb)
  have hl1 := 0
  clear hb hl0 hl1
  have hl0 := ltV HY.out
  obtain ⟨c0, c1, c2⟩ := c3V HX.out
  obtain ⟨d0, d1, d2⟩ := c3V HY.out
  obtain ⟨f0, f1, f2⟩ := f3V HX.out
  obtain ⟨g0, g1, g2⟩ := f3V HY.out
  go_wp2_with fail
  with_reducible refine (inRange_V _ _ _ true _ h2).mono ?_
  rintro e w1 ⟨rfl, hb⟩
  clear c0 c1 c2 d0 d1 d2 f0 f1 f2 g0 g1 g2
  replace HX := Lib.hid ((hb.block _ (ltV HX.out)).trans HX.out)
  replace HY := Lib.hid ((hb.block _ (ltV HY.out)).trans HY.out)
  replace HB := Lib.hid (bkeep2 HB.out hb)
  have hl1 := 0
  clear hb hl0 hl1
  have hl0 := ltV HY.out
  obtain ⟨c0, c1, c2⟩ := c3V HX.out
  obtain ⟨d0, d1, d2⟩ := c3V HY.out
  obtain ⟨f0, f1, f2⟩ := f3V HX.out
  obtain ⟨g0, g1, g2⟩ := f3V HY.out
  by_cases q1 : n < f
  · have HS := Lib.hid (show seV t p f n = frV t p n by rw [seV, (neV_spec (n := f) (a := n - p + 1) (b := n) (by omega)).2.1 q1])
    go_wp2_with fail
    with_reducible refine (clamped_v _ _ _ _ _ k1 k2).mono ?_
    rintro e w1 ⟨rfl, hb⟩
    clear c0 c1 c2 d0 d1 d2 f0 f1 f2 g0 g1 g2
    replace HX := Lib.hid ((hb.block _ (ltV HX.out)).trans HX.out)
    replace HY := Lib.hid ((hb.block _ (ltV HY.out)).trans HY.out)
    replace HB := Lib.hid (bkeep2 HB.out hb)
    have hl1 := 0
    clear hb hl0 hl1
    have hl0 := ltV HY.out
    obtain ⟨c0, c1, c2⟩ := c3V HX.out
    obtain ⟨d0, d1, d2⟩ := c3V HY.out
    obtain ⟨f0, f1, f2⟩ := f3V HX.out
    obtain ⟨g0, g1, g2⟩ := f3V HY.out
    go_wp2
    refine bpV (fun W => W.heap[w.heap.size + 1]? = some (.cells #[.int .i64 (t), .int .i64 (p), .int .i64 (frV t p n)] 24 (0, 0)) ∧ Below w.heap.size w W) ⟨put3V HY.out (.int .i64 (t)) (.int .i64 (p)) (.int .i64 (frV t p n)), put3b HB.out (by omega) (.int .i64 (t)) (.int .i64 (p)) (.int .i64 (frV t p n))⟩ ?_
    clear HX HY HB
    clear c0 c1 c2 d0 d1 d2 f0 f1 f2 g0 g1 g2
    rintro W ⟨hy, hB⟩
    obtain ⟨d0, d1, d2⟩ := c3V hy
    exact bodyPost_ret (v := .agg #[.int .i64 (t), .int .i64 (p), .int .i64 (frV t p n)]) (by simp only [results, Try.results13]; go_simp) rfl ⟨by rw [HS.out], hB⟩
  by_cases q2 : f + p ≤ n
  · have HS := Lib.hid (show seV t p f n = frV t p (n - p + 1) by rw [seV, (neV_spec (n := f) (a := n - p + 1) (b := n) (by omega)).1 (by omega)])
    have q3 : ¬ n < f := q1
    have q4 : n ≥ f + p := q2
    go_wp2_with fail
    with_reducible refine (clamped_v _ _ _ _ _ k1 k2).mono ?_
    rintro e w1 ⟨rfl, hb⟩
    clear c0 c1 c2 d0 d1 d2 f0 f1 f2 g0 g1 g2
    replace HX := Lib.hid ((hb.block _ (ltV HX.out)).trans HX.out)
    replace HY := Lib.hid ((hb.block _ (ltV HY.out)).trans HY.out)
    replace HB := Lib.hid (bkeep2 HB.out hb)
    have hl1 := 0
    clear hb hl0 hl1
    have hl0 := ltV HY.out
    obtain ⟨c0, c1, c2⟩ := c3V HX.out
    obtain ⟨d0, d1, d2⟩ := c3V HY.out
    obtain ⟨f0, f1, f2⟩ := f3V HX.out
    obtain ⟨g0, g1, g2⟩ := f3V HY.out
    go_wp2
    refine bpV (fun W => W.heap[w.heap.size + 1]? = some (.cells #[.int .i64 (t), .int .i64 (p), .int .i64 (frV t p (n - p + 1))] 24 (0, 0)) ∧ Below w.heap.size w W) ⟨put3V HY.out (.int .i64 (t)) (.int .i64 (p)) (.int .i64 (frV t p (n - p + 1))), put3b HB.out (by omega) (.int .i64 (t)) (.int .i64 (p)) (.int .i64 (frV t p (n - p + 1)))⟩ ?_
    clear HX HY HB
    clear c0 c1 c2 d0 d1 d2 f0 f1 f2 g0 g1 g2
    rintro W ⟨hy, hB⟩
    obtain ⟨d0, d1, d2⟩ := c3V hy
    exact bodyPost_ret (v := .agg #[.int .i64 (t), .int .i64 (p), .int .i64 (frV t p (n - p + 1))]) (by simp only [results, Try.results13]; go_simp) rfl ⟨by rw [HS.out], hB⟩
  have HS := Lib.hid (show seV t p f n = f by rw [seV, (neV_spec (n := f) (a := n - p + 1) (b := n) (by omega)).2.2 (by omega) (by omega), frV_self g4 HF.out])
  clear HF
  have q4 : ¬ n ≥ f + p := q2
  go_wp2
  refine bpV (fun W => W.heap[w.heap.size + 1]? = some (.cells #[.int .i64 (t), .int .i64 (p), .int .i64 (f)] 24 (0, 0)) ∧ Below w.heap.size w W) ⟨put3V HY.out (.int .i64 (t)) (.int .i64 (p)) (.int .i64 (f)), put3b HB.out (by omega) (.int .i64 (t)) (.int .i64 (p)) (.int .i64 (f))⟩ ?_
  clear HX HY HB
  clear c0 c1 c2 d0 d1 d2 f0 f1 f2 g0 g1 g2
  rintro W ⟨hy, hB⟩
  obtain ⟨d0, d1, d2⟩ := c3V hy
  exact bodyPost_ret (v := .agg #[.int .i64 (t), .int .i64 (p), .int .i64 (f)]) (by simp only [results, Try.results13]; go_simp) rfl ⟨by rw [HS.out], hB⟩
end Go.Proofs.Ytpbfbcdidkbjiad
end
section
namespace Go.Proofs.Ytpbfbcdidkbjiad
open Go.RowKit
set_option linter.unusedVariables false
set_option maxHeartbeats 1000000
attribute [local go_sem 5000] run_mx run_mn
attribute [local go_sem] growUpon_value growUpon_skip growUpon_enter
theorem newV2 (w : World) (o o' o2 : Obj) : (((w.alloc o).alloc o').alloc o2).heap[w.heap.size + 1 + 1]? = some o2 := by
  have := newV1 (w.alloc o) o' o2; rwa [World.size_alloc] at this
set_option maxRecDepth 100000 in
theorem ThumbOf_no (t p f : Int) (w : World) (h : vwB t p f = false) : Calls Try.prog 15 #[.agg #[.int .i64 (t), .int .i64 (p), .int .i64 (f)]] w fun e w' => e = .returned (.tuple #[.int .i64 (-1), .int .i64 (-1)]) ∧ Below w.heap.size w w' := by
  go_enter Try.func15, Try.ntmps15
  go_wp2_with fail
  with_reducible refine (ValidView_v _ _ _ false _ h).mono ?_
  rintro e w1 ⟨rfl, hb⟩
  have HX := Lib.hid ((hb.block _ (ltV (newV w (.cells #[.int .i64 (t), .int .i64 (p), .int .i64 (f)] 24 (0, 0))))).trans (newV w (.cells #[.int .i64 (t), .int .i64 (p), .int .i64 (f)] 24 (0, 0))))
  have HB := Lib.hid (bkeep2 (balloc (Below.refl _ _)) hb)
  clear hb
  obtain ⟨c0, c1, c2⟩ := c3V HX.out
  go_wp2
  go_ret2
  exact ⟨rfl, HB.out⟩
set_option maxRecDepth 100000 in
theorem ThumbOf_zero (t p f : Int) (w : World) (h : vwB t p f = true) (h0 : t = 0) : Calls Try.prog 15 #[.agg #[.int .i64 (t), .int .i64 (p), .int .i64 (f)]] w fun e w' => e = .returned (.tuple #[.int .i64 0, .int .i64 1000]) ∧ Below w.heap.size w w' := by
  have q2 := Lib.hid (show (t == 0) = true by simpa using h0)
  clear h0
  go_enter Try.func15, Try.ntmps15
  go_wp2_with fail
  with_reducible refine (ValidView_v _ _ _ true _ h).mono ?_
  rintro e w1 ⟨rfl, hb⟩
  have HX := Lib.hid ((hb.block _ (ltV (newV w (.cells #[.int .i64 (t), .int .i64 (p), .int .i64 (f)] 24 (0, 0))))).trans (newV w (.cells #[.int .i64 (t), .int .i64 (p), .int .i64 (f)] 24 (0, 0))))
  have HB := Lib.hid (bkeep2 (balloc (Below.refl _ _)) hb)
  clear hb
  obtain ⟨c0, c1, c2⟩ := c3V HX.out
  replace q2 := q2.out
  go_wp2
  go_ret2
  exact ⟨rfl, HB.out⟩
set_option maxRecDepth 100000 in
theorem ThumbOf_yes (t p f : Int) (w : World) (h : vwB t p f = true) (h0 : 1 ≤ t) : Calls Try.prog 15 #[.agg #[.int .i64 (t), .int .i64 (p), .int .i64 (f)]] w fun e w' => e = .returned (.tuple #[.int .i64 (thA t f), .int .i64 (thB t p f)]) ∧ Below w.heap.size w w' := by
  have g1 := vwB_iff.1 h
  have k1 : -1000 ≤ t ∧ t ≤ 1000 := by omega
  have k2 : -1000 ≤ p ∧ p ≤ 1000 := by omega
  have g3 := enV_spec t p
  obtain ⟨⟨g11, g12⟩, ⟨g13, g14⟩, g15⟩ := g1
  have g4 : 0 ≤ f := by omega
  have g5 : f ≤ 500 := by omega
  have gm := mn_spec (f + p) t
  have e1 : mn t (f + p) = mn (f + p) t := mn_comm _ _
  have gm1 : 0 ≤ mn (f + p) t := by omega
  have gm2 : mn (f + p) t ≤ 500 := by omega
  have gm3 : mn (f + p) t ≤ t := by omega
  have g16 : f ≤ t := by omega
  clear g15 gm g3
  have q1 : ¬ t = 0 := by omega
  have q2 : (t == 0) = false := by simpa using q1
  have wm : IntKind.i64.wrap (mn (f + p) t * 1000) = mn (f + p) t * 1000 := IntWalk.i64_in _ (by omega)
  have wf : IntKind.i64.wrap (f * 1000) = f * 1000 := IntWalk.i64_in _ (by omega)
  have tb1 := th_bd (t := t) (x := f) (by omega) (by omega) g16
  have tb2 := th_bd (t := t) (x := mn (f + p) t) (by omega) (by omega) gm3
  have wt1 : IntKind.i64.wrap ((f * 1000).tdiv t) = (f * 1000).tdiv t := IntWalk.i64_in _ (by omega)
  have wt2 : IntKind.i64.wrap ((mn (f + p) t * 1000).tdiv t) = (mn (f + p) t * 1000).tdiv t := IntWalk.i64_in _ (by omega)
  clear tb1 tb2 g16 gm3
  have wa : IntKind.i64.wrap (f + p) = f + p := IntWalk.i64_in _ (by omega)
  go_enter Try.func15, Try.ntmps15
  go_wp2_with fail
  with_reducible refine (ValidView_v _ _ _ true _ h).mono ?_
  rintro e w1 ⟨rfl, hb⟩
  have HX := Lib.hid ((hb.block _ (ltV (newV w (.cells #[.int .i64 (t), .int .i64 (p), .int .i64 (f)] 24 (0, 0))))).trans (newV w (.cells #[.int .i64 (t), .int .i64 (p), .int .i64 (f)] 24 (0, 0))))
  have HB := Lib.hid (bkeep2 (balloc (Below.refl _ _)) hb)
  clear hb
  obtain ⟨c0, c1, c2⟩ := c3V HX.out
  go_wp2_with fail
  refine wp_region_grow 20 0 (· < 20) (by kernel_rfl) (by kernel_rfl) rfl ?_
  iterate 20 (refine wpG_step (fun K hK => ?_); first | (refine grow_skip rfl ?_; go_simp; refine hK _ ?_; clear hK K) | (apply Exists.intro; refine ⟨.inl ⟨rfl, fun w' hw' => ?_⟩, ?_⟩; (focus ((obtain ⟨hc, hf⟩ := bcell hw'.out); (have hcS := bcellS hw'.out); go_simp <;> first | rfl | fail)); (go_simp; refine hK _ ?_; clear hK K)))
  refine wpG_nil ?_
  refine wpK_tail (by kernel_rfl) (fun w9 hg9 => ?_)
  have hb9 := bdrewn hg9.out
  refine wpAny_end (by kernel_rfl) ?_
  refine NoPan.thn ?_
  clear hg9
  go_wp2
  go_ret2
  exact ⟨rfl, bkeep2 HB.out hb9⟩
set_option maxRecDepth 100000 in
theorem sThumbOf_no (t p f : Int) (w : World) (h : vwB t p f = false) : Calls Try.prog 16 #[.agg #[.int .i64 (t), .int .i64 (p), .int .i64 (f)]] w fun e w' => e = .returned (.tuple #[.int .i64 (-1), .int .i64 (-1)]) ∧ Below w.heap.size w w' := by
  go_enter Try.func16, Try.ntmps16
  go_wp2_with fail
  with_reducible refine (svalidView_v _ _ _ false _ h).mono ?_
  rintro e w1 ⟨rfl, hb⟩
  have HX := Lib.hid ((hb.block _ (ltV (newV w (.cells #[.int .i64 (t), .int .i64 (p), .int .i64 (f)] 24 (0, 0))))).trans (newV w (.cells #[.int .i64 (t), .int .i64 (p), .int .i64 (f)] 24 (0, 0))))
  have HB := Lib.hid (bkeep2 (balloc (Below.refl _ _)) hb)
  clear hb
  obtain ⟨c0, c1, c2⟩ := c3V HX.out
  go_wp2
  go_ret2
  exact ⟨rfl, HB.out⟩
set_option maxRecDepth 100000 in
theorem sThumbOf_zero (t p f : Int) (w : World) (h : vwB t p f = true) (h0 : t = 0) : Calls Try.prog 16 #[.agg #[.int .i64 (t), .int .i64 (p), .int .i64 (f)]] w fun e w' => e = .returned (.tuple #[.int .i64 0, .int .i64 1000]) ∧ Below w.heap.size w w' := by
  have q2 := Lib.hid (show (t == 0) = true by simpa using h0)
  clear h0
  go_enter Try.func16, Try.ntmps16
  go_wp2_with fail
  with_reducible refine (svalidView_v _ _ _ true _ h).mono ?_
  rintro e w1 ⟨rfl, hb⟩
  have HX := Lib.hid ((hb.block _ (ltV (newV w (.cells #[.int .i64 (t), .int .i64 (p), .int .i64 (f)] 24 (0, 0))))).trans (newV w (.cells #[.int .i64 (t), .int .i64 (p), .int .i64 (f)] 24 (0, 0))))
  have HB := Lib.hid (bkeep2 (balloc (Below.refl _ _)) hb)
  clear hb
  obtain ⟨c0, c1, c2⟩ := c3V HX.out
  replace q2 := q2.out
  go_wp2
  go_ret2
  exact ⟨rfl, HB.out⟩
set_option maxRecDepth 100000 in
theorem sThumbOf_yes (t p f : Int) (w : World) (h : vwB t p f = true) (h0 : 1 ≤ t) : Calls Try.prog 16 #[.agg #[.int .i64 (t), .int .i64 (p), .int .i64 (f)]] w fun e w' => e = .returned (.tuple #[.int .i64 (thA t f), .int .i64 (thB t p f)]) ∧ Below w.heap.size w w' := by
  have g1 := vwB_iff.1 h
  have k1 : -1000 ≤ t ∧ t ≤ 1000 := by omega
  have k2 : -1000 ≤ p ∧ p ≤ 1000 := by omega
  have g3 := enV_spec t p
  obtain ⟨⟨g11, g12⟩, ⟨g13, g14⟩, g15⟩ := g1
  have g4 : 0 ≤ f := by omega
  have g5 : f ≤ 500 := by omega
  have gm := mn_spec (f + p) t
  have e1 : mn t (f + p) = mn (f + p) t := mn_comm _ _
  have gm1 : 0 ≤ mn (f + p) t := by omega
  have gm2 : mn (f + p) t ≤ 500 := by omega
  have gm3 : mn (f + p) t ≤ t := by omega
  have g16 : f ≤ t := by omega
  clear g15 gm g3
  have q1 : ¬ t = 0 := by omega
  have q2 : (t == 0) = false := by simpa using q1
  have wm : IntKind.i64.wrap (mn (f + p) t * 1000) = mn (f + p) t * 1000 := IntWalk.i64_in _ (by omega)
  have wf : IntKind.i64.wrap (f * 1000) = f * 1000 := IntWalk.i64_in _ (by omega)
  have tb1 := th_bd (t := t) (x := f) (by omega) (by omega) g16
  have tb2 := th_bd (t := t) (x := mn (f + p) t) (by omega) (by omega) gm3
  have wt1 : IntKind.i64.wrap ((f * 1000).tdiv t) = (f * 1000).tdiv t := IntWalk.i64_in _ (by omega)
  have wt2 : IntKind.i64.wrap ((mn (f + p) t * 1000).tdiv t) = (mn (f + p) t * 1000).tdiv t := IntWalk.i64_in _ (by omega)
  clear tb1 tb2 g16 gm3
  have wa : IntKind.i64.wrap (f + p) = f + p := IntWalk.i64_in _ (by omega)
  go_enter Try.func16, Try.ntmps16
  go_wp2_with fail
  with_reducible refine (svalidView_v _ _ _ true _ h).mono ?_
  rintro e w1 ⟨rfl, hb⟩
  have HX := Lib.hid ((hb.block _ (ltV (newV w (.cells #[.int .i64 (t), .int .i64 (p), .int .i64 (f)] 24 (0, 0))))).trans (newV w (.cells #[.int .i64 (t), .int .i64 (p), .int .i64 (f)] 24 (0, 0))))
  have HB := Lib.hid (bkeep2 (balloc (Below.refl _ _)) hb)
  clear hb
  obtain ⟨c0, c1, c2⟩ := c3V HX.out
  go_wp2_with fail
  refine wp_region_grow 20 0 (· < 20) (by kernel_rfl) (by kernel_rfl) rfl ?_
  iterate 20 (refine wpG_step (fun K hK => ?_); first | (refine grow_skip rfl ?_; go_simp; refine hK _ ?_; clear hK K) | (apply Exists.intro; refine ⟨.inl ⟨rfl, fun w' hw' => ?_⟩, ?_⟩; (focus ((obtain ⟨hc, hf⟩ := bcell hw'.out); (have hcS := bcellS hw'.out); go_simp <;> first | rfl | fail)); (go_simp; refine hK _ ?_; clear hK K)))
  refine wpG_nil ?_
  refine wpK_tail (by kernel_rfl) (fun w9 hg9 => ?_)
  have hb9 := bdrewn hg9.out
  refine wpAny_end (by kernel_rfl) ?_
  refine NoPan.thn ?_
  clear hg9
  go_wp2
  go_ret2
  exact ⟨rfl, bkeep2 HB.out hb9⟩
end Go.Proofs.Ytpbfbcdidkbjiad
end
