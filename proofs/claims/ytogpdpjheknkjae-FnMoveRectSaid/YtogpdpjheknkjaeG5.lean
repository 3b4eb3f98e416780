import Derived.Test.YtogpdpjheknkjaeG4
namespace Go.Proofs.Ytogpdpjheknkjae
open Go.RowKit
set_option linter.unusedVariables false
set_option maxHeartbeats 1000000
set_option maxRecDepth 100000 in
theorem DrawMoveRect_any (A : Option Addr) (n c : Nat) (w : World) (h : Bts w A n) (hn : n ≤ c) (hc : c ≤ maxLen) :
    Calls Try.prog 5 #[.slice A n c] w fun e w' => (∃ x y u v z3 z4, e = .returned (.tuple #[.agg #[.int .i64 (x), .int .i64 (y), .int .i64 (u), .int .i64 (v)], .int .i64 z3, .int .i64 z4])) ∧ Below w.heap.size w w' := by
  go_enter Try.func5, Try.ntmps5
  go_wp2_with fail
  with_reducible refine (newReader_any A n c _ (h.alloc _) hn hc).mono ?_
  rintro e w1 ⟨n', rfl, hr1, hc1⟩
  simp only [World.size_alloc] at hr1
  go_wp2_with fail
  with_reducible refine (someRect_any _ hr1 (by omega)).mono ?_
  rintro e w2 ⟨⟨x, y, u, v, rfl⟩, hr2, hc2⟩
  go_wp2_with fail
  with_reducible refine (one_lit _ hr2 (by omega) (by simp) (by omega) (by omega) (by simp [isI])).mono ?_
  rintro e w3 ⟨⟨z3, rfl⟩, hr3, hc3⟩
  go_wp2_with fail
  with_reducible refine (one_lit _ hr3 (by omega) (by simp) (by omega) (by omega) (by simp [isI])).mono ?_
  rintro e w4 ⟨⟨z4, rfl⟩, hr4, hc4⟩
  have Hc : Chg [w.heap.size + 1] _ w4 := (hc1.mono (by simp)).trans (hc2.trans (hc3.trans hc4))
  have hb := (Hc.block w.heap.size (by simp) (by simp)).trans (heap_alloc_new w _)
  have hB := Lib.hid (Chg.below (B := w.heap.size) (((Chg.refl [w.heap.size + 1] w).alloc _).trans Hc) (Nat.le_refl _) (by simp))
  obtain ⟨c0, c1, c2, c3, f0, f1, f2, f3⟩ := b4 hb
  clear hb hc1 hc2 hc3 hc4 hr1 Hc h
  go_wp2
  exact bodyPost_ret (v := .tuple #[.agg #[.int .i64 (x), .int .i64 (y), .int .i64 (u), .int .i64 (v)], .int .i64 z3, .int .i64 z4]) (by simp only [results, Try.results5]; go_simp) rfl ⟨⟨_, _, _, _, _, _, rfl⟩, put4b hB.out (Nat.le_refl _) _ _ _ _⟩
set_option maxRecDepth 100000 in
theorem DrawAreaOf_any (A : Option Addr) (n c : Nat) (w : World) (h : Bts w A n) (hn : n ≤ c) (hc : c ≤ maxLen) :
    Calls Try.prog 10 #[.slice A n c] w fun e w' => (∃ x y u v, e = .returned (.agg #[.int .i64 (x), .int .i64 (y), .int .i64 (u), .int .i64 (v)])) ∧ Below w.heap.size w w' := by
  go_enter Try.func10, Try.ntmps10
  go_wp2_with fail
  with_reducible refine (newReader_any A n c _ (h.alloc _) hn hc).mono ?_
  rintro e w1 ⟨n', rfl, hr1, hc1⟩
  simp only [World.size_alloc] at hr1
  go_wp2_with fail
  with_reducible refine (someRect_any _ hr1 (by omega)).mono ?_
  rintro e w2 ⟨⟨x, y, u, v, rfl⟩, hr2, hc2⟩
  have hb := (hc1.block w.heap.size (by simp) (by simp)).trans (heap_alloc_new w _)
  have hs := hc1.size
  simp only [World.size_alloc] at hs
  replace hb := (hc2.block w.heap.size (by omega) (by simp)).trans hb
  have hB := Lib.hid (Chg.below (B := w.heap.size) (((Chg.refl [w.heap.size + 1] w).alloc _).trans ((hc1.mono (by simp)).trans hc2)) (Nat.le_refl _) (by simp))
  obtain ⟨c0, c1, c2, c3, f0, f1, f2, f3⟩ := b4 hb
  clear hb hc1 hc2 hr1 hr2
  go_wp2
  exact bodyPost_ret (v := .agg #[.int .i64 (x), .int .i64 (y), .int .i64 (u), .int .i64 (v)]) (by simp only [results, Try.results10]; go_simp) rfl ⟨⟨_, _, _, _, rfl⟩, (((hB.out.setCell (Nat.le_refl _) _).setCell (Nat.le_refl _) _).setCell (Nat.le_refl _) _).setCell (Nat.le_refl _) _⟩
end Go.Proofs.Ytogpdpjheknkjae
