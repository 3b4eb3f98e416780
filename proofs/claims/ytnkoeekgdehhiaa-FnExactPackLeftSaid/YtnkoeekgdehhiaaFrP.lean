import Derived.Test.YtnkoeekgdehhiaaFr
import Derived.Test.YtnkoeekgdehhiaaPT
import Derived.Deep.Slices
import Derived.Deep.Fields
import Derived.ChangeSame
namespace Go.Proofs.Ytnkoeekgdehhiaa
open Go.Joins Go.ChangeShapes Go.WideShapes Go.RowKit Go.Deep
set_option linter.unusedVariables false
theorem packs_of {H : Type} {enc : TypeId × Value → H} {W : World} {a : Option Addr} {len cap : Nat} {d : DataW H} {ps : List MemPlace}
    (h : DataW.Trod enc Try.prog W 0 (fun _ => true) true 22 (.slice a len cap) d ps) : ∃ L : List Pk, L.length = len ∧ PV W a L ∧ len ≤ maxLen := by
  obtain ⟨fuel, hf⟩ := h
  have h9 : Try.prog.cellsOf 49 = 9 := by kernel_rfl
  rcases open_slice Try.underlying22 hf with ⟨hcs, _⟩ | ⟨x, l, c, m, fu, D, Pl, hcs, _, hl, hm, hmm, _, hi⟩
  · simp [Value.cells] at hcs
    obtain ⟨rfl, rfl, rfl⟩ := hcs
    exact ⟨[], rfl, ⟨fun h => absurd h (by simp)⟩, by simp⟩
  · simp [Value.cells] at hcs
    obtain ⟨rfl, rfl, rfl⟩ := hcs
    have hlen : len ≤ m := by rw [hmm]; simp; exact hl
    have each : ∀ i, i < len → ∃ p : Pk, ∀ j, j < 9 → W.cell? (x.add (i * 9 + j)) = (vals p)[j]? := by
      intro i him
      obtain ⟨cs, hrow, hread⟩ := hi i (by omega)
      rw [h9] at hrow
      obtain ⟨_, hsz, hat⟩ := World.cells?_some hrow
      obtain ⟨ys, n, _, _, _, hyl, hg⟩ := DataW.trod_struct Try.underlying49 hread
      match cs, hsz, hat, hg with
      | [k0, k1, k2, k3, k4, k5, k6, k7, k8], _, hat, hg =>
        match ys, hyl, hg with
        | [y0, y1, y2, y3, y4, y5, y6, y7, y8], _, hg =>
          have t0 : DataW.trod enc Try.prog W 0 (fun _ => true) true n 3 [k0] = some y0 := by
            have g := hg 0 _ rfl
            have c : Try.prog.cellsOf 3 = 1 := by kernel_rfl
            simpa [c] using g
          have t1 : DataW.trod enc Try.prog W 0 (fun _ => true) true n 3 [k1] = some y1 := by
            have g := hg 1 _ rfl
            have c : Try.prog.cellsOf 3 = 1 := by kernel_rfl
            simpa [c] using g
          have t2 : DataW.trod enc Try.prog W 0 (fun _ => true) true n 3 [k2] = some y2 := by
            have g := hg 2 _ rfl
            have c : Try.prog.cellsOf 3 = 1 := by kernel_rfl
            simpa [c] using g
          have t3 : DataW.trod enc Try.prog W 0 (fun _ => true) true n 4 [k3] = some y3 := by
            have g := hg 3 _ rfl
            have c : Try.prog.cellsOf 4 = 1 := by kernel_rfl
            simpa [c] using g
          have t4 : DataW.trod enc Try.prog W 0 (fun _ => true) true n 4 [k4] = some y4 := by
            have g := hg 4 _ rfl
            have c : Try.prog.cellsOf 4 = 1 := by kernel_rfl
            simpa [c] using g
          have t5 : DataW.trod enc Try.prog W 0 (fun _ => true) true n 4 [k5] = some y5 := by
            have g := hg 5 _ rfl
            have c : Try.prog.cellsOf 4 = 1 := by kernel_rfl
            simpa [c] using g
          have t6 : DataW.trod enc Try.prog W 0 (fun _ => true) true n 3 [k6] = some y6 := by
            have g := hg 6 _ rfl
            have c : Try.prog.cellsOf 3 = 1 := by kernel_rfl
            simpa [c] using g
          have t7 : DataW.trod enc Try.prog W 0 (fun _ => true) true n 3 [k7] = some y7 := by
            have g := hg 7 _ rfl
            have c : Try.prog.cellsOf 3 = 1 := by kernel_rfl
            simpa [c] using g
          have t8 : DataW.trod enc Try.prog W 0 (fun _ => true) true n 3 [k8] = some y8 := by
            have g := hg 8 _ rfl
            have c : Try.prog.cellsOf 3 = 1 := by kernel_rfl
            simpa [c] using g
          obtain ⟨z0, e0, _, _⟩ := DataW.trod_int Try.underlying3 t0
          obtain ⟨z1, e1, _, _⟩ := DataW.trod_int Try.underlying3 t1
          obtain ⟨z2, e2, _, _⟩ := DataW.trod_int Try.underlying3 t2
          obtain ⟨z3, e3, _⟩ := DataW.trod_bool Try.underlying4 t3
          obtain ⟨z4, e4, _⟩ := DataW.trod_bool Try.underlying4 t4
          obtain ⟨z5, e5, _⟩ := DataW.trod_bool Try.underlying4 t5
          obtain ⟨z6, e6, _, _⟩ := DataW.trod_int Try.underlying3 t6
          obtain ⟨z7, e7, _, _⟩ := DataW.trod_int Try.underlying3 t7
          obtain ⟨z8, e8, _, _⟩ := DataW.trod_int Try.underlying3 t8
          simp only [List.cons.injEq, and_true] at e0 e1 e2 e3 e4 e5 e6 e7 e8
          subst e0 e1 e2 e3 e4 e5 e6 e7 e8
          refine ⟨⟨z0, z1, z2, z3, z4, z5, z6, z7, z8⟩, fun j hj => ?_⟩
          have hb : ∀ (a : Addr) (i j : Nat), (a.add i).add j = a.add (i + j) := fun a i j => by
            unfold Addr.add
            by_cases hi : i = 0 <;> by_cases hj : j = 0 <;> simp [hi, hj, Nat.add_assoc]
          have := hat j hj
          rw [hb] at this
          exact this
    have hch : ∃ f : Nat → Pk, ∀ i, i < len → ∀ j, j < 9 → W.cell? (x.add (i * 9 + j)) = (vals (f i))[j]? := by
      refine ⟨fun i => if h : i < len then Classical.choose (each i h) else ⟨0, 0, 0, false, false, false, 0, 0, 0⟩, fun i him => ?_⟩
      simp only [him, dif_pos]
      exact Classical.choose_spec (each i him)
    obtain ⟨f, hfc⟩ := hch
    refine ⟨(List.range len).map f, by simp, ⟨fun h0 => ?_⟩, by omega⟩
    have h0' : 0 < len := by simpa using h0
    obtain ⟨b, off, spot⟩ := x
    have hc := hfc 0 h0' 0 (by omega)
    have hc' : W.cell? ⟨b, off, spot⟩ = some (.int .i64 (f 0).w) := by simpa [Addr.add, vals] using hc
    have hspot : spot = none := World.cell?_spot hc'
    subst hspot
    refine ⟨b, off, rfl, World.block_lt_of_cell? W _ hc', fun i p hp => ?_⟩
    have hil : i < len := by
      have := (List.getElem?_eq_some_iff.1 hp).1
      simpa using this
    have hpe : p = f i := by
      rw [List.getElem?_map, List.getElem?_range hil] at hp
      simpa using hp.symm
    subst hpe
    have hadd : ∀ n : Nat, (⟨b, off, none⟩ : Addr).add n = ⟨b, off + n, none⟩ := fun n => by
      unfold Addr.add
      split
      · rename_i h; subst h; rfl
      · rfl
    have hcell := hfc i hil
    simp only [hadd] at hcell
    have e : ∀ j, j < 9 → W.cell? ⟨b, off + i * 9 + j, none⟩ = (vals (f i))[j]? := fun j hj => by rw [Nat.add_assoc]; exact hcell j hj
    exact ⟨e 0 (by omega), e 1 (by omega), e 2 (by omega), e 3 (by omega), e 4 (by omega), e 5 (by omega), e 6 (by omega), e 7 (by omega), e 8 (by omega)⟩
end Go.Proofs.Ytnkoeekgdehhiaa
