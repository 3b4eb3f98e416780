import Derived.Test.YtogpdpjheknkjadG3
namespace Go.Proofs.Ytogpdpjheknkjad
open Go.RowKit
set_option linter.unusedVariables false
set_option maxHeartbeats 1000000
theorem bp_gen {P : Program} {f : Func} {R : Ending → World → Prop} {e : Exit} {a : Act} {W : World} (F : World → Prop) (hF : F W) (h : ∀ W0, F W0 → bodyPost P f R e a W0) : bodyPost P f R e a W := h W hF
theorem heap_alloc2 (w : World) (o o' : Obj) : ((w.alloc o).alloc o').heap[w.heap.size + 1]? = some o' := by have := heap_alloc_new (w.alloc o) o'; rwa [World.size_alloc] at this
theorem put1h {w : World} {b i : Nat} {cs : Array Value} {T : TypeId} {fz : Nat × Nat} (h : w.heap[b]? = some (.cells cs T fz)) (u : Value) : (w.setCell ⟨b, i, none⟩ u).heap[b]? = some (.cells (cs.setIfInBounds i u) T fz) := by
  simp [World.setCell, Array.getElem?_modify, h]
theorem put4h {w : World} {b : Nat} {a0 a1 a2 a3 : Value} {T : TypeId} {fz : Nat × Nat} (h : w.heap[b]? = some (.cells #[a0, a1, a2, a3] T fz)) (x0 x1 x2 x3 : Value) :
    ((((w.setCell ⟨b, 0, none⟩ x0).setCell ⟨b, 1, none⟩ x1).setCell ⟨b, 2, none⟩ x2).setCell ⟨b, 3, none⟩ x3).heap[b]? = some (.cells #[x0, x1, x2, x3] T fz) := by
  rw [put1h (put1h (put1h (put1h h x0) x1) x2) x3]; rfl
theorem put4o {w : World} {b b' : Nat} (h : b' ≠ b) (x0 x1 x2 x3 : Value) :
    ((((w.setCell ⟨b, 0, none⟩ x0).setCell ⟨b, 1, none⟩ x1).setCell ⟨b, 2, none⟩ x2).setCell ⟨b, 3, none⟩ x3).heap[b']? = w.heap[b']? := by
  rw [Below.heap_setCell _ _ _ _ h, Below.heap_setCell _ _ _ _ h, Below.heap_setCell _ _ _ _ h, Below.heap_setCell _ _ _ _ h]
theorem put4b {B b : Nat} {a w : World} (h : Below B a w) (hb : B ≤ b) (x0 x1 x2 x3 : Value) : Below B a ((((w.setCell ⟨b, 0, none⟩ x0).setCell ⟨b, 1, none⟩ x1).setCell ⟨b, 2, none⟩ x2).setCell ⟨b, 3, none⟩ x3) :=
  (((h.setCell hb _).setCell hb _).setCell hb _).setCell hb _
set_option maxRecDepth 100000 in
theorem DrawMeetRects_any (A : Option Addr) (n c : Nat) (w : World) (h : Bts w A n) (hn : n ≤ c) (hc : c ≤ maxLen) :
    Calls Try.prog 18 #[.slice A n c] w fun e w' => (∃ x y u v x' y' u' v', e = .returned (.tuple #[.agg #[.int .i64 (x), .int .i64 (y), .int .i64 (u), .int .i64 (v)], .agg #[.int .i64 (x'), .int .i64 (y'), .int .i64 (u'), .int .i64 (v')]])) ∧ Below w.heap.size w w' := by
  go_enter Try.func18, Try.ntmps18
  go_wp2_with fail
  with_reducible refine (newReader_any A n c _ ((h.alloc _).alloc _) hn hc).mono ?_
  rintro e w1 ⟨n', rfl, hr1, hc1⟩
  simp only [World.size_alloc] at hr1
  go_wp2_with fail
  with_reducible refine (someRect_any _ hr1 (by omega)).mono ?_
  rintro e w2 ⟨⟨x, y, u, v, rfl⟩, hr2, hc2⟩
  go_wp2_with fail
  with_reducible refine (someRect_any _ hr2 (by omega)).mono ?_
  rintro e w3 ⟨⟨x', y', u', v', rfl⟩, hr3, hc3⟩
  have hs := hc1.size
  have hs2 := hc2.size
  simp only [World.size_alloc] at hs
  have Hc : Chg [w.heap.size + 1 + 1] _ w3 := (hc1.mono (by simp)).trans (hc2.trans hc3)
  have hb0 := (Hc.block w.heap.size (by simp; omega) (by simp; omega)).trans ((Below.heap_alloc _ _ _ (by simp)).trans (heap_alloc_new w _))
  have hb1 := (Hc.block (w.heap.size + 1) (by simp) (by simp)).trans (heap_alloc2 w _ _)
  have hB := Lib.hid (Chg.below (B := w.heap.size) ((((Chg.refl [w.heap.size + 1 + 1] w).alloc _).alloc _).trans Hc) (Nat.le_refl _) (by simp; omega))
  have H0 := Lib.hid hb0
  have H1 := Lib.hid hb1
  obtain ⟨c0, c1, c2, c3, f0, f1, f2, f3⟩ := b4 hb0
  obtain ⟨d0, d1, d2, d3, g0, g1, g2, g3⟩ := b4 hb1
  clear hb0 hb1 hc1 hc2 hc3 Hc hr1 hr2 hr3 h
  go_wp2
  refine bp_gen (fun W => W.heap[w.heap.size]? = some (.cells #[.int .i64 x, .int .i64 y, .int .i64 u, .int .i64 v] 24 (0, 0)) ∧ W.heap[w.heap.size + 1]? = some (.cells #[.int .i64 x', .int .i64 y', .int .i64 u', .int .i64 v'] 24 (0, 0)) ∧ Below w.heap.size w W)
    ⟨(put4o (by omega) _ _ _ _).trans (put4h H0.out _ _ _ _), put4h ((put4o (by omega) _ _ _ _).trans H1.out) _ _ _ _, put4b (put4b hB.out (Nat.le_refl _) _ _ _ _) (by omega) _ _ _ _⟩ ?_
  clear H0 H1 c0 c1 c2 c3 f0 f1 f2 f3 d0 d1 d2 d3 g0 g1 g2 g3
  rintro W ⟨h0, h1, hBB⟩
  obtain ⟨c0, c1, c2, c3, -⟩ := b4 h0
  obtain ⟨d0, d1, d2, d3, -⟩ := b4 h1
  exact bodyPost_ret (v := .tuple #[.agg #[.int .i64 (x), .int .i64 (y), .int .i64 (u), .int .i64 (v)], .agg #[.int .i64 (x'), .int .i64 (y'), .int .i64 (u'), .int .i64 (v')]]) (by simp only [results, Try.results18]; go_simp) rfl ⟨⟨_, _, _, _, _, _, _, _, rfl⟩, hBB⟩
end Go.Proofs.Ytogpdpjheknkjad
