import Derived.Test.YtnkoeekgdehhiaaPV2
import Derived.OwnWalk
namespace Go.Proofs.Ytnkoeekgdehhiaa
open Go.RowKit
set_option linter.unusedVariables false
set_option maxHeartbeats 1000000
/-- values written side by side -/
def writeAt (cs : Array Value) (o : Nat) : List Value → Array Value
  | [] => cs
  | v :: r => writeAt (cs.setIfInBounds o v) (o + 1) r
theorem writeAt_size : ∀ (vs : List Value) (cs : Array Value) (o : Nat), (writeAt cs o vs).size = cs.size
  | [], cs, o => rfl
  | v :: r, cs, o => by unfold writeAt; rw [writeAt_size r]; simp
theorem writeAt_lo : ∀ (vs : List Value) (cs : Array Value) (o i : Nat), i < o → (writeAt cs o vs)[i]? = cs[i]?
  | [], cs, o, i, _ => rfl
  | v :: r, cs, o, i, h => by unfold writeAt; rw [writeAt_lo r _ _ _ (by omega), Array.getElem?_setIfInBounds_ne (by omega)]
theorem writeAt_hi : ∀ (vs : List Value) (cs : Array Value) (o i : Nat), o + vs.length ≤ i → (writeAt cs o vs)[i]? = cs[i]?
  | [], cs, o, i, _ => rfl
  | v :: r, cs, o, i, h => by
    simp only [List.length_cons] at h
    unfold writeAt; rw [writeAt_hi r _ _ _ (by omega), Array.getElem?_setIfInBounds_ne (by omega)]
theorem writeAt_in : ∀ (vs : List Value) (cs : Array Value) (o j : Nat), o + vs.length ≤ cs.size → j < vs.length → (writeAt cs o vs)[o + j]? = vs[j]?
  | [], cs, o, j, _, h => by simp at h
  | v :: r, cs, o, 0, h, _ => by
    simp only [List.length_cons] at h
    unfold writeAt; rw [writeAt_lo r _ _ _ (by omega), Nat.add_zero, Array.getElem?_setIfInBounds_self_of_lt (by omega)]
    rfl
  | v :: r, cs, o, j + 1, h, hj => by
    simp only [List.length_cons] at h hj
    unfold writeAt
    rw [show o + (j + 1) = o + 1 + j from by omega, writeAt_in r _ _ _ (by simp; omega) (by omega)]
    simp
def vals (p : Pk) : List Value := [.int .i64 p.w, .int .i64 p.h, .int .i64 p.s, .bool p.fx, .bool p.fy, .bool p.ex, .int .i64 p.an, .int .i64 p.px, .int .i64 p.py]
/-- the items lie in the cells from o on -/
def In9 (cs : Array Value) (o : Nat) (p : Pk) : Prop := ∀ j, j < 9 → cs[o + j]? = (vals p)[j]?
theorem In9.cells {w : World} {b : Nat} {cs : Array Value} {T : TypeId} {fz : Nat × Nat} {o : Nat} {p : Pk} (hh : w.heap[b]? = some (.cells cs T fz)) (h : In9 cs o p) : Cells9 w b o p := by
  have e : ∀ j, j < 9 → w.cell? ⟨b, o + j, none⟩ = (vals p)[j]? := fun j hj => (cellH hh _).trans (h j hj)
  exact ⟨e 0 (by omega), e 1 (by omega), e 2 (by omega), e 3 (by omega), e 4 (by omega), e 5 (by omega), e 6 (by omega), e 7 (by omega), e 8 (by omega)⟩
theorem In9.write {cs : Array Value} {o : Nat} (p : Pk) (h : o + 9 ≤ cs.size) : In9 (writeAt cs o (vals p)) o p := fun j hj => writeAt_in _ _ _ _ h hj
theorem In9.keep {cs : Array Value} {o o' : Nat} {p q : Pk} (h : In9 cs o' q) (hd : o' + 9 ≤ o ∨ o + 9 ≤ o') : In9 (writeAt cs o (vals p)) o' q := fun j hj => by
  rcases hd with hd | hd
  · rw [writeAt_lo _ _ _ _ (by omega)]; exact h j hj
  · rw [writeAt_hi _ _ _ _ (by simp [vals]; omega)]; exact h j hj
theorem pput1 {w : World} {b i : Nat} {cs : Array Value} {T : TypeId} {fz : Nat × Nat} (h : w.heap[b]? = some (.cells cs T fz)) (u : Value) : (w.setCell ⟨b, i, none⟩ u).heap[b]? = some (.cells (cs.setIfInBounds i u) T fz) := by
  simp [World.setCell, Array.getElem?_modify, h]
/-- nine stores into one block -/
theorem pput9 {w : World} {b : Nat} {cs : Array Value} {T : TypeId} {fz : Nat × Nat} (h : w.heap[b]? = some (.cells cs T fz)) (o : Nat) (p : Pk) :
    ((((((((((w.setCell ⟨b, o, none⟩ (.int .i64 p.w)).setCell ⟨b, o + 1, none⟩ (.int .i64 p.h)).setCell ⟨b, o + 2, none⟩ (.int .i64 p.s)).setCell ⟨b, o + 3, none⟩ (.bool p.fx)).setCell ⟨b, o + 4, none⟩ (.bool p.fy)).setCell ⟨b, o + 5, none⟩ (.bool p.ex)).setCell ⟨b, o + 6, none⟩ (.int .i64 p.an)).setCell ⟨b, o + 7, none⟩ (.int .i64 p.px)).setCell ⟨b, o + 8, none⟩ (.int .i64 p.py))).heap[b]? = some (.cells (writeAt cs o (vals p)) T fz) :=
  pput1 (pput1 (pput1 (pput1 (pput1 (pput1 (pput1 (pput1 (pput1 h _) _) _) _) _) _) _) _) _
theorem pput9b {B b : Nat} {a w : World} (h : Below B a w) (hb : B ≤ b) (o : Nat) (p : Pk) : Below B a ((((((((((w.setCell ⟨b, o, none⟩ (.int .i64 p.w)).setCell ⟨b, o + 1, none⟩ (.int .i64 p.h)).setCell ⟨b, o + 2, none⟩ (.int .i64 p.s)).setCell ⟨b, o + 3, none⟩ (.bool p.fx)).setCell ⟨b, o + 4, none⟩ (.bool p.fy)).setCell ⟨b, o + 5, none⟩ (.bool p.ex)).setCell ⟨b, o + 6, none⟩ (.int .i64 p.an)).setCell ⟨b, o + 7, none⟩ (.int .i64 p.px)).setCell ⟨b, o + 8, none⟩ (.int .i64 p.py))) :=
  ((((((((h.setCell hb _).setCell hb _).setCell hb _).setCell hb _).setCell hb _).setCell hb _).setCell hb _).setCell hb _).setCell hb _
/-- cells of a block that are there -/
theorem there {w : World} {b : Nat} {cs : Array Value} {T : TypeId} {fz : Nat × Nat} (h : w.heap[b]? = some (.cells cs T fz)) {i : Nat} (hi : i < cs.size) : ∃ v, w.cell? ⟨b, i, none⟩ = some v :=
  ⟨cs[i], (cellH h i).trans (by simp [hi])⟩
theorem frozenH {w : World} {b : Nat} {cs : Array Value} {T : TypeId} (h : w.heap[b]? = some (.cells cs T (0, 0))) (i : Nat) : w.frozen? ⟨b, i, none⟩ = false := by simp [World.frozen?, h]
theorem made9 : ∃ f : Nat → Array Value, (∀ n, (f n).size = n * 9) ∧ ∀ (n : Nat) (w : World), n ≤ 1048576 → (Instr.makeSlice 26 (.int .i64 (n : Int)) (.int .i64 (n : Int))).run Try.prog w = .ok (.slice (some ⟨w.heap.size, 0, none⟩) n n) (w.alloc (.cells (f n) 45)) := by
  have hinfo : (Try.prog.info? 45).map (fun i => (i.zero, i.size, i.bytes)) = some (some (.agg #[.int .i64 0, .int .i64 0, .int .i64 0, .bool false, .bool false, .bool false, .int .i64 0, .int .i64 0, .int .i64 0]), 9, 56) := by kernel_rfl
  obtain ⟨i, hi, h1, h2, h3⟩ := info_parts hinfo
  refine ⟨fun n => madeCells (Value.agg #[.int .i64 0, .int .i64 0, .int .i64 0, .bool false, .bool false, .bool false, .int .i64 0, .int .i64 0, .int .i64 0]).cells (n * 9), fun n => size_madeCells _ _, fun n w hn => ?_⟩
  have hr := run_make (P := Try.prog) w 26 45 i _ Try.underlying26 hi h1 .i64 .i64 n n (by omega) (Int.le_refl _) (by rw [h3]; omega) (by omega)
  rw [h2] at hr
  simpa using hr
end Go.Proofs.Ytnkoeekgdehhiaa
