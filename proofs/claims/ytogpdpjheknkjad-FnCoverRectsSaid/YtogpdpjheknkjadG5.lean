import Derived.Test.YtogpdpjheknkjadG4
namespace Go.Proofs.Ytogpdpjheknkjad
open Go.RowKit
set_option linter.unusedVariables false
set_option maxHeartbeats 1000000
set_option maxRecDepth 100000 in
theorem DrawCoverRects_any (A : Option Addr) (n c : Nat) (w : World) (h : Bts w A n) (hn : n ≤ c) (hc : c ≤ maxLen) :
    Calls Try.prog 23 #[.slice A n c] w fun e w' => (∃ x y u v x' y' u' v', e = .returned (.tuple #[.agg #[.int .i64 (x), .int .i64 (y), .int .i64 (u), .int .i64 (v)], .agg #[.int .i64 (x'), .int .i64 (y'), .int .i64 (u'), .int .i64 (v')]])) ∧ Below w.heap.size w w' := by
  go_enter Try.func23, Try.ntmps23
  go_wp2_with fail
  with_reducible refine (DrawMeetRects_any A n c _ ((h.alloc _).alloc _) hn hc).mono ?_
  rintro e w1 ⟨⟨x, y, u, v, x', y', u', v', rfl⟩, hc1⟩
  have hb0 := (hc1.block w.heap.size (by simp; omega)).trans ((Below.heap_alloc _ _ _ (by simp)).trans (heap_alloc_new w _))
  have hb1 := (hc1.block (w.heap.size + 1) (by simp)).trans (heap_alloc2 w _ _)
  have hB := Lib.hid ((((Below.refl w.heap.size w).alloc (Nat.le_refl _) _).alloc (by simp) _).trans (hc1.mono (by simp; omega)))
  have H0 := Lib.hid hb0
  have H1 := Lib.hid hb1
  obtain ⟨c0, c1, c2, c3, f0, f1, f2, f3⟩ := b4 hb0
  obtain ⟨d0, d1, d2, d3, g0, g1, g2, g3⟩ := b4 hb1
  clear hb0 hb1 hc1 h
  go_wp2
  refine bp_gen (fun W => W.heap[w.heap.size]? = some (.cells #[.int .i64 x, .int .i64 y, .int .i64 u, .int .i64 v] 24 (0, 0)) ∧ W.heap[w.heap.size + 1]? = some (.cells #[.int .i64 x', .int .i64 y', .int .i64 u', .int .i64 v'] 24 (0, 0)) ∧ Below w.heap.size w W)
    ⟨(put4o (by omega) _ _ _ _).trans (put4h H0.out _ _ _ _), put4h ((put4o (by omega) _ _ _ _).trans H1.out) _ _ _ _, put4b (put4b hB.out (Nat.le_refl _) _ _ _ _) (by omega) _ _ _ _⟩ ?_
  clear H0 H1 c0 c1 c2 c3 f0 f1 f2 f3 d0 d1 d2 d3 g0 g1 g2 g3
  rintro W ⟨h0, h1, hBB⟩
  obtain ⟨c0, c1, c2, c3, -⟩ := b4 h0
  obtain ⟨d0, d1, d2, d3, -⟩ := b4 h1
  exact bodyPost_ret (v := .tuple #[.agg #[.int .i64 (x), .int .i64 (y), .int .i64 (u), .int .i64 (v)], .agg #[.int .i64 (x'), .int .i64 (y'), .int .i64 (u'), .int .i64 (v')]]) (by simp only [results, Try.results23]; go_simp) rfl ⟨⟨_, _, _, _, _, _, _, _, rfl⟩, hBB⟩
end Go.Proofs.Ytogpdpjheknkjad
