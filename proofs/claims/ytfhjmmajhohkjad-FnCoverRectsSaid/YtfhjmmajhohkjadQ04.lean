import Derived.Test.YtfhjmmajhohkjadQ03
section
namespace Go.Proofs.Ytfhjmmajhohkjad
open Go.RowKit
set_option linter.unusedVariables false
attribute [local go_sem 5000] run_mx run_mn run_eqlR run_neqR
attribute [local go_sem] growUpon_value growUpon_skip growUpon_enter
set_option maxHeartbeats 1000000
theorem BX.drew {l : List (Nat × Array Value)} {w : World} (h : BX l w) : BX l w.drew := fun p hp => h p hp
theorem in_b (x y u v x' y' u' v' : Int) (b : Bool) (h : (vr x y u v && (vr x' y' u' v' && insB x y u v x' y' u' v')) = b) (w : World) : Calls Try.prog 21 #[.agg #[.int .i64 (x), .int .i64 (y), .int .i64 (u), .int .i64 (v)], .agg #[.int .i64 (x'), .int .i64 (y'), .int .i64 (u'), .int .i64 (v')]] w fun e w' => e = .returned (.bool b) ∧ Below w.heap.size w w' := by
  rw [← h]; exact InsideRect_any _ _ _ _ _ _ _ _ _
theorem vr_b (x y u v : Int) (b : Bool) (h1 : vr x y u v = b) (w : World) : Calls Try.prog 42 #[.agg #[.int .i64 (x), .int .i64 (y), .int .i64 (u), .int .i64 (v)]] w fun e w' => e = .returned (.bool b) ∧ Below w.heap.size w w' := by
  rw [← h1]; exact validRect_any _ _ _ _ _
theorem equalRect_same (x y u v : Int) (w : World) : Calls Try.prog 20 #[.agg #[.int .i64 (x), .int .i64 (y), .int .i64 (u), .int .i64 (v)], .agg #[.int .i64 (x), .int .i64 (y), .int .i64 (u), .int .i64 (v)]] w fun e w' => e = .returned (.bool true) ∧ Below w.heap.size w w' := by
  have h : eqR x y u v x y u v = true := eqR_self
  go_enter Try.func20, Try.ntmps20
  go_wp2
  go_ret
  exact ⟨rfl, (by repeat (first | with_reducible exact Below.refl _ _ | with_reducible assumption | with_reducible refine balloc ?_ | (with_reducible refine bset ?_ ?_; rotate_left; ((try dsimp only); omega)) | refine bkeep2 ?_ (by assumption) | with_reducible refine Below.drew ?_))⟩
theorem mul_bd {u v : Int} (h1 : 0 ≤ u) (h2 : u ≤ 400) (h3 : 0 ≤ v) (h4 : v ≤ 400) : 0 ≤ u * v ∧ u * v ≤ 160000 :=
  ⟨Int.mul_nonneg h1 h3, Int.le_trans (Int.mul_le_mul h2 h4 h3 (by omega)) (by omega)⟩
/-- a size that is neither below 0 nor too great -/
def Sz (u v : Int) : Prop := (0 ≤ u ∧ u ≤ 400) ∧ (0 ≤ v ∧ v ≤ 400)
theorem Sz_vr {x y u v : Int} (h : vr x y u v = true) : Sz u v := by rw [vr_iff] at h; exact ⟨by omega, by omega⟩
theorem cover_v (x y u v x' y' u' v' X Y U V : Int) (w : World) (h : coverB x y u v x' y' u' v' = true) (hX : mn x x' = X) (hY : mn y y' = Y) (hU : mx (x + u) (x' + u') - X = U) (hV : mx (y + v) (y' + v') - Y = V) :
    Calls Try.prog 18 #[.agg #[.int .i64 (x), .int .i64 (y), .int .i64 (u), .int .i64 (v)], .agg #[.int .i64 (x'), .int .i64 (y'), .int .i64 (u'), .int .i64 (v')]] w fun e w' => e = .returned (.tuple #[.agg #[.int .i64 (X), .int .i64 (Y), .int .i64 (U), .int .i64 (V)], .bool true]) ∧ Below w.heap.size w w' := by
  subst hX hY hU hV; exact CoverRects_yes _ _ _ _ _ _ _ _ _ h
theorem scover_v (x y u v x' y' u' v' X Y U V : Int) (w : World) (h : coverB x y u v x' y' u' v' = true) (hX : mn x x' = X) (hY : mn y y' = Y) (hU : mx (x + u) (x' + u') - X = U) (hV : mx (y + v) (y' + v') - Y = V) :
    Calls Try.prog 19 #[.agg #[.int .i64 (x), .int .i64 (y), .int .i64 (u), .int .i64 (v)], .agg #[.int .i64 (x'), .int .i64 (y'), .int .i64 (u'), .int .i64 (v')]] w fun e w' => e = .returned (.tuple #[.agg #[.int .i64 (X), .int .i64 (Y), .int .i64 (U), .int .i64 (V)], .bool true]) ∧ Below w.heap.size w w' := by
  subst hX hY hU hV; exact sCoverRects_yes _ _ _ _ _ _ _ _ _ h
theorem move_v (x y u v p q X Y : Int) (w : World) (h : mvB x y u v p q = true) (hX : x + p = X) (hY : y + q = Y) :
    Calls Try.prog 23 #[.agg #[.int .i64 (x), .int .i64 (y), .int .i64 (u), .int .i64 (v)], .int .i64 p, .int .i64 q] w fun e w' => e = .returned (.tuple #[.agg #[.int .i64 (X), .int .i64 (Y), .int .i64 (u), .int .i64 (v)], .bool true]) ∧ Below w.heap.size w w' := by
  subst hX hY; exact MoveRect_yes _ _ _ _ _ _ _ h
end Go.Proofs.Ytfhjmmajhohkjad
end
section
namespace Go.Proofs.Ytfhjmmajhohkjad
open Go.RowKit
set_option linter.unusedVariables false
set_option maxHeartbeats 1000000
set_option maxRecDepth 100000 in
theorem DrawCoverRects_any (A : Option Addr) (n c : Nat) (w : World) (h : Bts w A n) (hn : n ≤ c) (hc : c ≤ maxLen) :
    Calls Try.prog 17 #[.slice A n c] w fun e w' => (∃ x y u v x' y' u' v', e = .returned (.tuple #[.agg #[.int .i64 (x), .int .i64 (y), .int .i64 (u), .int .i64 (v)], .agg #[.int .i64 (x'), .int .i64 (y'), .int .i64 (u'), .int .i64 (v')]])) ∧ Below w.heap.size w w' := by
  go_enter Try.func17, Try.ntmps17
  go_wp2_with fail
  with_reducible refine (DrawMeetRects_any A n c _ ((h.alloc _).alloc _) hn hc).mono ?_
  rintro e w1 ⟨⟨x, y, u, v, x', y', u', v', rfl⟩, hc1⟩
  have hb0 := (hc1.block w.heap.size (by simp; omega)).trans ((Below.heap_alloc _ _ _ (by simp)).trans (heap_alloc_new w _))
  have hb1 := (hc1.block (w.heap.size + 1) (by simp)).trans (heap_alloc2 w _ _)
  have hB := Lib.hid ((((Below.refl w.heap.size w).alloc (Nat.le_refl _) _).alloc (by simp) _).trans (hc1.mono (by simp; omega)))
  have H0 := Lib.hid hb0
  have H1 := Lib.hid hb1
  obtain ⟨c0, c1, c2, c3, f0, f1, f2, f3⟩ := b4 hb0
  obtain ⟨d0, d1, d2, d3, g0, g1, g2, g3⟩ := b4 hb1
  clear hb0 hb1 hc1 h
  go_wp2
  refine bp_gen (fun W => W.heap[w.heap.size]? = some (.cells #[.int .i64 x, .int .i64 y, .int .i64 u, .int .i64 v] 40 (0, 0)) ∧ W.heap[w.heap.size + 1]? = some (.cells #[.int .i64 x', .int .i64 y', .int .i64 u', .int .i64 v'] 40 (0, 0)) ∧ Below w.heap.size w W)
    ⟨(put4o (by omega) _ _ _ _).trans (put4h H0.out _ _ _ _), put4h ((put4o (by omega) _ _ _ _).trans H1.out) _ _ _ _, put4b (put4b hB.out (Nat.le_refl _) _ _ _ _) (by omega) _ _ _ _⟩ ?_
  clear H0 H1 c0 c1 c2 c3 f0 f1 f2 f3 d0 d1 d2 d3 g0 g1 g2 g3
  rintro W ⟨h0, h1, hBB⟩
  obtain ⟨c0, c1, c2, c3, -⟩ := b4 h0
  obtain ⟨d0, d1, d2, d3, -⟩ := b4 h1
  exact bodyPost_ret (v := .tuple #[.agg #[.int .i64 (x), .int .i64 (y), .int .i64 (u), .int .i64 (v)], .agg #[.int .i64 (x'), .int .i64 (y'), .int .i64 (u'), .int .i64 (v')]]) (by simp only [results, Try.results17]; go_simp) rfl ⟨⟨_, _, _, _, _, _, _, _, rfl⟩, hBB⟩
set_option maxRecDepth 100000 in
theorem DrawMoveRect_any (A : Option Addr) (n c : Nat) (w : World) (h : Bts w A n) (hn : n ≤ c) (hc : c ≤ maxLen) :
    Calls Try.prog 22 #[.slice A n c] w fun e w' => (∃ x y u v z3 z4, e = .returned (.tuple #[.agg #[.int .i64 (x), .int .i64 (y), .int .i64 (u), .int .i64 (v)], .int .i64 z3, .int .i64 z4])) ∧ Below w.heap.size w w' := by
  go_enter Try.func22, Try.ntmps22
  go_wp2_with fail
  with_reducible refine (newReader_any A n c _ (h.alloc _) hn hc).mono ?_
  rintro e w1 ⟨n', rfl, hr1, hc1⟩
  simp only [World.size_alloc] at hr1
  go_wp2_with fail
  with_reducible refine (someRect_any _ hr1 (by omega)).mono ?_
  rintro e w2 ⟨⟨x, y, u, v, rfl⟩, hr2, hc2⟩
  go_wp2_with fail
  with_reducible refine (one_lit _ hr2 (by omega) (by simp) (by omega) (by omega) (by simp [isI])).mono ?_
  rintro e w3 ⟨⟨z3, rfl⟩, hr3, hc3⟩
  go_wp2_with fail
  with_reducible refine (one_lit _ hr3 (by omega) (by simp) (by omega) (by omega) (by simp [isI])).mono ?_
  rintro e w4 ⟨⟨z4, rfl⟩, hr4, hc4⟩
  have Hc : Chg [w.heap.size + 1] _ w4 := (hc1.mono (by simp)).trans (hc2.trans (hc3.trans hc4))
  have hb := (Hc.block w.heap.size (by simp) (by simp)).trans (heap_alloc_new w _)
  have hB := Lib.hid (Chg.below (B := w.heap.size) (((Chg.refl [w.heap.size + 1] w).alloc _).trans Hc) (Nat.le_refl _) (by simp))
  obtain ⟨c0, c1, c2, c3, f0, f1, f2, f3⟩ := b4 hb
  clear hb hc1 hc2 hc3 hc4 hr1 Hc h
  go_wp2
  exact bodyPost_ret (v := .tuple #[.agg #[.int .i64 (x), .int .i64 (y), .int .i64 (u), .int .i64 (v)], .int .i64 z3, .int .i64 z4]) (by simp only [results, Try.results22]; go_simp) rfl ⟨⟨_, _, _, _, _, _, rfl⟩, put4b hB.out (Nat.le_refl _) _ _ _ _⟩
end Go.Proofs.Ytfhjmmajhohkjad
end
