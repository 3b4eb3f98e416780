import Derived.Test.YtjdjahckdgbkbabQ10
section
namespace Go.Proofs.Ytjdjahckdgbkbab
open Go.RowKit
set_option linter.unusedVariables false
set_option maxHeartbeats 1000000
theorem rvals_len : ∀ (M : List Rc), (rvals M).length = M.length * 4
  | [] => rfl
  | r :: t => by show (vals4 r ++ rvals t).length = _; rw [List.length_append, rvals_len t]; simp [vals4]; omega
theorem rvals_app : ∀ (A B : List Rc), rvals (A ++ B) = rvals A ++ rvals B
  | [], B => rfl
  | r :: t, B => by show vals4 r ++ rvals (t ++ B) = (vals4 r ++ rvals t) ++ rvals B; rw [rvals_app t B, List.append_assoc]
theorem rvals_snoc' (M : List Rc) (R : Rc) : rvals M ++ vals4 R = rvals (M ++ [R]) := by rw [rvals_app]; show _ = rvals M ++ (vals4 R ++ []); rw [List.append_nil]
theorem rvals_one : ∀ (M : List Rc), ∀ u ∈ rvals M, u.oneCell' = true
  | [], u, h => by simp [rvals] at h
  | r :: t, u, h => by
    have h' : u ∈ vals4 r ++ rvals t := h
    rcases List.mem_append.1 h' with h | h
    · exact vals4_one r u h
    · exact rvals_one t u h
theorem rv_all {w : World} {b : Nat} {M : List Rc} (h : ∀ i r, M[i]? = some r → Cells4 w b (i * 4) r) : ∀ (j : Nat) (u : Value), (rvals M)[j]? = some u → w.cell? ((⟨b, 0, none⟩ : Addr).add j) = some u := fun j u hu => by
  have hj : j < M.length * 4 := by rw [← rvals_len]; exact (List.getElem?_eq_some_iff.1 hu).1
  have hi : j / 4 < M.length := by omega
  obtain ⟨c0, c1, c2, c3⟩ := h (j / 4) _ (List.getElem?_eq_getElem hi)
  have hg := rvals_get (List.getElem?_eq_getElem hi) (j % 4) (by omega)
  rw [show j / 4 * 4 + j % 4 = j by omega, hu] at hg
  have hadd : (⟨b, 0, none⟩ : Addr).add j = ⟨b, j, none⟩ := by unfold Addr.add; split <;> simp_all
  rw [hadd]
  have e : j = j / 4 * 4 + j % 4 := by omega
  have h4 : j % 4 = 0 ∨ j % 4 = 1 ∨ j % 4 = 2 ∨ j % 4 = 3 := by omega
  rcases h4 with h4 | h4 | h4 | h4 <;> rw [h4] at hg e <;> rw [e] <;> simp [vals4] at hg <;> subst hg <;> assumption
theorem cell_old {W : World} {b j : Nat} {u : Value} (o : Obj) (h : W.cell? ((⟨b, 0, none⟩ : Addr).add j) = some u) (hb : b < W.heap.size) : (W.alloc o).cell? ((⟨b, 0, none⟩ : Addr).add j) = some u :=
  (World.cell?_of_block (by rw [block_add]; exact Below.heap_alloc W o b hb)).trans h
theorem areas_nonneg : ∀ {N : List Rc}, (∀ r ∈ N, r.ok = true) → 0 ≤ areas N
  | [], _ => Int.le_refl _
  | r :: t, h => by
    have h1 := area_bds (h r List.mem_cons_self)
    have h2 := areas_nonneg (N := t) (fun q hq => h q (List.mem_cons_of_mem _ hq))
    show 0 ≤ r.area + areas t
    unfold Rc.area; omega
theorem areas_append : ∀ (A B : List Rc), areas (A ++ B) = areas A + areas B
  | [], B => by simp [areas]
  | r :: t, B => by simp [areas, areas_append t B]; omega
theorem areas_take {N : List Rc} (h : ∀ r ∈ N, r.ok = true) (k : Nat) : 0 ≤ areas (N.take k) ∧ areas (N.take k) ≤ areas N := by
  have h1 := areas_nonneg (N := N.take k) (fun r hr => h r (List.mem_of_mem_take hr))
  have h2 := areas_nonneg (N := N.drop k) (fun r hr => h r (List.mem_of_mem_drop hr))
  have h3 := areas_append (N.take k) (N.drop k)
  rw [List.take_append_drop] at h3
  omega
theorem areas_snoc {N : List Rc} {k : Nat} {r : Rc} (h : N[k]? = some r) : areas (N.take (k + 1)) = areas (N.take k) + r.area := by
  obtain ⟨hk, e⟩ := List.getElem?_eq_some_iff.1 h
  rw [List.take_succ_eq_append_getElem hk, areas_append, e]
  simp [areas]
theorem pair_of {N : List Rc} (h : N.Pairwise (fun a b => ¬ a.met b)) {i k : Nat} {a b : Rc} (hik : i < k) (ha : N[i]? = some a) (hb : N[k]? = some b) : ¬ a.met b := by
  obtain ⟨hi, e1⟩ := List.getElem?_eq_some_iff.1 ha
  obtain ⟨hk, e2⟩ := List.getElem?_eq_some_iff.1 hb
  rw [← e1, ← e2]
  exact List.pairwise_iff_getElem.1 h i k hi hk hik
theorem meetB_met {a b : Rc} (h : ¬ a.met b) : meetB a.x a.y a.u a.v b.x b.y b.u b.v = false := by
  have : hitB a.x a.y a.u a.v b.x b.y b.u b.v = false := by
    rw [hitB_not]; unfold Rc.met at h; omega
  simp [meetB, this]
end Go.Proofs.Ytjdjahckdgbkbab
end
