import Derived.Test.YtogpdpjheknkjadG2
namespace Go.Proofs.Ytogpdpjheknkjad
open Go.RowKit
set_option linter.unusedVariables false
set_option maxHeartbeats 1000000
theorem Bts.alloc {w : World} {A : Option Addr} {n : Nat} (h : Bts w A n) (o : Obj) : Bts (w.alloc o) A n := by
  intro hn
  obtain ⟨ad, e, hb, hc⟩ := h hn
  refine ⟨ad, e, by simp; omega, fun i hi => ?_⟩
  obtain ⟨z, z0, z1, hz⟩ := hc i hi
  exact ⟨z, z0, z1, (World.cell?_of_block (Below.heap_alloc _ _ _ (by rw [block_add]; exact hb))).trans hz⟩
theorem Chg.toBelow {w w1 : World} {rb : Nat} (h : Chg [rb] w w1) (hr : w.heap.size ≤ rb) : Below w.heap.size w w1 := h.below (Nat.le_refl _) (by simpa using hr)
set_option maxRecDepth 100000 in
theorem DrawValidRect_any (A : Option Addr) (n c : Nat) (w : World) (h : Bts w A n) (hn : n ≤ c) (hc : c ≤ maxLen) :
    Calls Try.prog 9 #[.slice A n c] w fun e w' => (∃ x y u v, e = .returned (.agg #[.int .i64 (x), .int .i64 (y), .int .i64 (u), .int .i64 (v)])) ∧ Below w.heap.size w w' := by
  go_enter Try.func9, Try.ntmps9
  go_wp2_with fail
  with_reducible refine (newReader_any A n c _ (h.alloc _) hn hc).mono ?_
  rintro e w1 ⟨n', rfl, hr1, hc1⟩
  simp only [World.size_alloc] at hr1
  go_wp2_with fail
  with_reducible refine (someRect_any _ hr1 (by omega)).mono ?_
  rintro e w2 ⟨⟨x, y, u, v, rfl⟩, hr2, hc2⟩
  have hb := (hc1.block w.heap.size (by simp) (by simp)).trans (heap_alloc_new w _)
  have hs := hc1.size
  simp only [World.size_alloc] at hs
  replace hb := (hc2.block w.heap.size (by omega) (by simp)).trans hb
  have hB := Lib.hid (Chg.below (B := w.heap.size) (((Chg.refl [w.heap.size + 1] w).alloc _).trans ((hc1.mono (by simp)).trans hc2)) (Nat.le_refl _) (by simp))
  obtain ⟨c0, c1, c2, c3, f0, f1, f2, f3⟩ := b4 hb
  clear hb hc1 hc2 hr1 hr2
  go_wp2
  exact bodyPost_ret (v := .agg #[.int .i64 (x), .int .i64 (y), .int .i64 (u), .int .i64 (v)]) (by simp only [results, Try.results9]; go_simp) rfl ⟨⟨_, _, _, _, rfl⟩, (((hB.out.setCell (Nat.le_refl _) _).setCell (Nat.le_refl _) _).setCell (Nat.le_refl _) _).setCell (Nat.le_refl _) _⟩
end Go.Proofs.Ytogpdpjheknkjad
