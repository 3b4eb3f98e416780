import Derived.Test.YtogpdpjheknkjacG2
namespace Go.Proofs.Ytogpdpjheknkjac
open Go.RowKit
set_option linter.unusedVariables false
set_option maxHeartbeats 1000000
theorem Bts.alloc {w : World} {A : Option Addr} {n : Nat} (h : Bts w A n) (o : Obj) : Bts (w.alloc o) A n := by
  intro hn
  obtain ⟨ad, e, hb, hc⟩ := h hn
  refine ⟨ad, e, by simp; omega, fun i hi => ?_⟩
  obtain ⟨z, z0, z1, hz⟩ := hc i hi
  exact ⟨z, z0, z1, (World.cell?_of_block (Below.heap_alloc _ _ _ (by rw [block_add]; exact hb))).trans hz⟩
theorem Chg.toBelow {w w1 : World} {rb : Nat} (h : Chg [rb] w w1) (hr : w.heap.size ≤ rb) : Below w.heap.size w w1 := h.below (Nat.le_refl _) (by simpa using hr)
end Go.Proofs.Ytogpdpjheknkjac
