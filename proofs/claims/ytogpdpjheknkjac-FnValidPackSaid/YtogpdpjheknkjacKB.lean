import Derived.Test.YtogpdpjheknkjacFr
import Derived.Test.YtogpdpjheknkjacG4
import Derived.Test.YtogpdpjheknkjacB
namespace Go.Proofs.Ytogpdpjheknkjac
open Go.RowKit
set_option linter.unusedVariables false
theorem IsRow.bts {w : World} {A : Option Addr} {n c : Nat} {z : List Int} (h : IsRow .u8 w A n c z) : Bts w A n ∧ n ≤ c ∧ c ≤ maxLen := by
  rcases h with ⟨rfl, rfl, rfl, rfl⟩ | ⟨x, rfl, h1, h2, h3, h4, h5⟩
  · exact ⟨fun h => absurd h (by omega), Nat.le_refl _, by unfold maxLen; omega⟩
  · refine ⟨fun hn => ⟨x, rfl, ?_, fun i hi => ?_⟩, h1, h2⟩
    · have := h4 0 (by omega)
      have h6 := World.block_lt_of_cell? w _ this
      rwa [block_add] at h6
    · have hc := h4 i (by omega)
      refine ⟨z.getD i 0, ?_, ?_, hc⟩
      all_goals
        have hm : z.getD i 0 ∈ z := by
          rw [List.getD_eq_getElem?_getD, List.getElem?_eq_getElem (by omega)]
          exact List.getElem_mem _
        have h6 := h5 _ hm
        have g1 : IntKind.u8.min = 0 := by decide
        have g2 : IntKind.u8.max = 255 := by decide
        generalize z.getD i 0 = y at *
        simp [Lit.wf, g1, g2] at h6
        omega
/-- what the boxes hold -/
def BX (l : List (Nat × Array Value)) (w : World) : Prop := ∀ p ∈ l, w.heap[p.1]? = some (.cells p.2 37 (0, 0))
section
variable {l : List (Nat × Array Value)} {w w' : World}
theorem BX.nil (w : World) : BX [] w := fun p hp => by cases hp
theorem BX.skip (h : BX l w) (o : Obj) : BX l (w.alloc o) := fun p hp => (Below.heap_alloc _ _ _ (lt_of_heap (h p hp))).trans (h p hp)
theorem BX.alloc (h : BX l w) (cs : Array Value) : BX ((w.heap.size, cs) :: l) (w.alloc (.cells cs 37)) := fun p hp => by
  rcases List.mem_cons.1 hp with rfl | hp
  · exact heap_alloc_new _ _
  · exact h.skip _ p hp
theorem BX.below (h : BX l w) (hb : Below w.heap.size w w') : BX l w' := fun p hp => (hb.block _ (lt_of_heap (h p hp))).trans (h p hp)
theorem BX.head {b : Nat} {cs : Array Value} (h : BX ((b, cs) :: l) w) : w.heap[b]? = some (.cells cs 37 (0, 0)) := h (b, cs) List.mem_cons_self
theorem BX.tail {p : Nat × Array Value} (h : BX (p :: l) w) : BX l w := fun q hq => h q (List.mem_cons_of_mem _ hq)
end
theorem balloc' {W0 w : World} {o : Obj} (h : Below W0.heap.size W0 w) : Below W0.heap.size W0 (w.alloc o) := h.alloc h.size o
end Go.Proofs.Ytogpdpjheknkjac
