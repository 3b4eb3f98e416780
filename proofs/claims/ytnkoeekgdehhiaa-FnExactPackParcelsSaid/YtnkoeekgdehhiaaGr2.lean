import Derived.Test.YtnkoeekgdehhiaaP2
namespace Go.Proofs.Ytnkoeekgdehhiaa
open Go Go.RowKit
set_option linter.unusedVariables false
section
variable {P : Program} {ops : Array Oper} {md : Region.Mode} {Q : Exit → Act → World → Prop}
/-- Two variables are made, in either order. -/
theorem wpK_allocs {pre : Nat → Bool} {f : Nat} {listed : Array Bool} {a : Act} {w : World} {i j : Nat} {oi oj : Oper} {Oi Oj : Obj} (hr : Region.ready md ops listed = [i, j])
    (hrj : Region.ready md ops (listed.setIfInBounds i true) = [j]) (hri : Region.ready md ops (listed.setIfInBounds j true) = [i]) (hoi : ops[i]? = some oi) (hoj : ops[j]? = some oj) (hgi : oi.guard = none) (hgj : oj.guard = none)
    (hp : allPre ops pre listed = false) (hpj : allPre ops pre (listed.setIfInBounds i true) = false) (hpi : allPre ops pre (listed.setIfInBounds j true) = false) (hij : i ≠ j)
    (hd : ∀ d, oi.dst = some d → oj.dst ≠ some d)
    (ei : ∀ (a' : Act) (w' : World) (K : Act → World → Prop), K (a'.put oi.dst (.pointer (some ⟨w'.heap.size, 0, none⟩))) (w'.alloc Oi) → oi.wp P a' w' K Q)
    (ej : ∀ (a' : Act) (w' : World) (K : Act → World → Prop), K (a'.put oj.dst (.pointer (some ⟨w'.heap.size, 0, none⟩))) (w'.alloc Oj) → oj.wp P a' w' K Q)
    (h : ∀ x y w', Gr w w' → x ≠ y → w.heap.size ≤ x → w.heap.size ≤ y → w'.heap[x]? = some Oi → w'.heap[y]? = some Oj →
      wpK P md ops Q pre f ((listed.setIfInBounds i true).setIfInBounds j true) ((a.put oi.dst (.pointer (some ⟨x, 0, none⟩))).put oj.dst (.pointer (some ⟨y, 0, none⟩))) w') :
    wpK P md ops Q pre (f + 1 + 1) listed a w := by
  have old : ∀ (w1 w2 : World) (o o' : Obj), Gr (w1.alloc o) w2 → (w2.alloc o').heap[w1.heap.size]? = some o := fun w1 w2 o o' g => by
    have hs := g.out.size
    simp at hs
    rw [Below.heap_alloc _ _ _ (by omega)]
    exact (g.out.block _ (by simp)).trans (heap_new _ _)
  refine .inr ⟨hp, fun w' hw' => ⟨fun h0 => (by rw [hr] at h0; cases h0), fun k hk => ?_⟩⟩
  rw [hr] at hk
  simp only [List.mem_cons, List.not_mem_nil, or_false] at hk
  have s1 := hw'.out.size
  rcases hk with rfl | rfl
  · refine wpOp_one hoi hgi (ei _ _ _ ⟨Gr.alloc _ _, wpK_one hrj hoj hgj hpj fun w1 hw1 => ej _ _ _ ⟨Gr.alloc _ _, ?_⟩⟩)
    have s2 := hw1.out.size
    simp at s2
    exact h _ _ _ (hw'.trans ((Gr.alloc _ _).trans (hw1.trans (Gr.alloc _ _)))) (by omega) (by omega) (by omega) (old _ _ _ _ hw1) (heap_new _ _)
  · refine wpOp_one hoj hgj (ej _ _ _ ⟨Gr.alloc _ _, wpK_one hri hoi hgi hpi fun w1 hw1 => ei _ _ _ ⟨Gr.alloc _ _, ?_⟩⟩)
    have s2 := hw1.out.size
    simp at s2
    have := h _ _ _ (hw'.trans ((Gr.alloc _ _).trans (hw1.trans (Gr.alloc _ _)))) (by omega) (by omega) (by omega) (heap_new _ _) (old _ _ _ _ hw1)
    rw [Array.setIfInBounds_comm _ _ hij, Act.put_comm a _ _ hd] at this
    exact this
end
end Go.Proofs.Ytnkoeekgdehhiaa
