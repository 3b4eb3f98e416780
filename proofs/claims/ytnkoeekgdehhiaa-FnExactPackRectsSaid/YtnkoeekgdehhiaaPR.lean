import Derived.Test.YtnkoeekgdehhiaaPK
namespace Go.Proofs.Ytnkoeekgdehhiaa
open Go.RowKit
set_option linter.unusedVariables false
set_option maxHeartbeats 1000000
def vals4 (r : Rc) : List Value := [.int .i64 r.x, .int .i64 r.y, .int .i64 r.u, .int .i64 r.v]
def In4 (cs : Array Value) (o : Nat) (r : Rc) : Prop := ∀ j, j < 4 → cs[o + j]? = (vals4 r)[j]?
def Cells4 (w : World) (b o : Nat) (r : Rc) : Prop := w.cell? ⟨b, o, none⟩ = some (.int .i64 r.x) ∧ w.cell? ⟨b, o + 1, none⟩ = some (.int .i64 r.y) ∧ w.cell? ⟨b, o + 2, none⟩ = some (.int .i64 r.u) ∧ w.cell? ⟨b, o + 3, none⟩ = some (.int .i64 r.v)
theorem In4.cells {w : World} {b : Nat} {cs : Array Value} {T : TypeId} {fz : Nat × Nat} {o : Nat} {r : Rc} (hh : w.heap[b]? = some (.cells cs T fz)) (h : In4 cs o r) : Cells4 w b o r := by
  have e : ∀ j, j < 4 → w.cell? ⟨b, o + j, none⟩ = (vals4 r)[j]? := fun j hj => (cellH hh _).trans (h j hj)
  exact ⟨e 0 (by omega), e 1 (by omega), e 2 (by omega), e 3 (by omega)⟩
theorem In4.write {cs : Array Value} {o : Nat} (r : Rc) (h : o + 4 ≤ cs.size) : In4 (writeAt cs o (vals4 r)) o r := fun j hj => writeAt_in _ _ _ _ h hj
theorem In4.keep {cs : Array Value} {o o' : Nat} {r q : Rc} (h : In4 cs o' q) (hd : o' + 4 ≤ o ∨ o + 4 ≤ o') : In4 (writeAt cs o (vals4 r)) o' q := fun j hj => by
  rcases hd with hd | hd
  · rw [writeAt_lo _ _ _ _ (by omega)]; exact h j hj
  · rw [writeAt_hi _ _ _ _ (by simp [vals4]; omega)]; exact h j hj
/-- what a block of rectangles of the call's own holds -/
def Blk4 (w : World) (g : Nat) (M : List Rc) : Prop := ∃ cs : Array Value, w.heap[g]? = some (.cells cs 37 (0, 0)) ∧ cs.size = M.length * 4 ∧ ∀ i r, M[i]? = some r → In4 cs (i * 4) r
theorem Blk4.keep {w w' : World} {g : Nat} {M : List Rc} (h : Blk4 w g M) (hb : Below w.heap.size w w') : Blk4 w' g M := by
  obtain ⟨cs, hh, hs, hc⟩ := h
  exact ⟨cs, (hb.block g (Array.getElem?_eq_some_iff.1 hh).1).trans hh, hs, hc⟩
theorem pput4 {w : World} {b : Nat} {cs : Array Value} {T : TypeId} {fz : Nat × Nat} (h : w.heap[b]? = some (.cells cs T fz)) (o : Nat) (r : Rc) :
    ((((w.setCell ⟨b, o, none⟩ (.int .i64 r.x)).setCell ⟨b, o + 1, none⟩ (.int .i64 r.y)).setCell ⟨b, o + 2, none⟩ (.int .i64 r.u)).setCell ⟨b, o + 3, none⟩ (.int .i64 r.v)).heap[b]? = some (.cells (writeAt cs o (vals4 r)) T fz) :=
  pput1 (pput1 (pput1 (pput1 h _) _) _) _
theorem pput4o {w : World} {b b' : Nat} (h : b' ≠ b) (o0 o1 o2 o3 : Nat) (x0 x1 x2 x3 : Value) :
    ((((w.setCell ⟨b, o0, none⟩ x0).setCell ⟨b, o1, none⟩ x1).setCell ⟨b, o2, none⟩ x2).setCell ⟨b, o3, none⟩ x3).heap[b']? = w.heap[b']? := by
  rw [Below.heap_setCell _ _ _ _ h, Below.heap_setCell _ _ _ _ h, Below.heap_setCell _ _ _ _ h, Below.heap_setCell _ _ _ _ h]
theorem pput4z {w : World} {b : Nat} {a0 a1 a2 a3 : Value} {T : TypeId} {fz : Nat × Nat} (h : w.heap[b]? = some (.cells #[a0, a1, a2, a3] T fz)) (x0 x1 x2 x3 : Value) :
    ((((w.setCell ⟨b, 0, none⟩ x0).setCell ⟨b, 1, none⟩ x1).setCell ⟨b, 2, none⟩ x2).setCell ⟨b, 3, none⟩ x3).heap[b]? = some (.cells #[x0, x1, x2, x3] T fz) := by
  rw [pput1 (pput1 (pput1 (pput1 h x0) x1) x2) x3]; rfl
theorem pput4b {B b : Nat} {a w : World} (h : Below B a w) (hb : B ≤ b) (o0 o1 o2 o3 : Nat) (x0 x1 x2 x3 : Value) : Below B a ((((w.setCell ⟨b, o0, none⟩ x0).setCell ⟨b, o1, none⟩ x1).setCell ⟨b, o2, none⟩ x2).setCell ⟨b, o3, none⟩ x3) :=
  (((h.setCell hb _).setCell hb _).setCell hb _).setCell hb _
theorem made4 : ∃ f : Nat → Array Value, (∀ n, (f n).size = n * 4) ∧ ∀ (n : Nat) (w : World), n ≤ 1048576 → (Instr.makeSlice 30 (.int .i64 (n : Int)) (.int .i64 (n : Int))).run Try.prog w = .ok (.slice (some ⟨w.heap.size, 0, none⟩) n n) (w.alloc (.cells (f n) 37)) := by
  have hinfo : (Try.prog.info? 37).map (fun i => (i.zero, i.size, i.bytes)) = some (some (.agg #[.int .i64 0, .int .i64 0, .int .i64 0, .int .i64 0]), 4, 32) := by kernel_rfl
  obtain ⟨i, hi, h1, h2, h3⟩ := info_parts hinfo
  refine ⟨fun n => madeCells (Value.agg #[.int .i64 0, .int .i64 0, .int .i64 0, .int .i64 0]).cells (n * 4), fun n => size_madeCells _ _, fun n w hn => ?_⟩
  have hr := run_make (P := Try.prog) w 30 37 i _ Try.underlying30 hi h1 .i64 .i64 n n (by omega) (Int.le_refl _) (by rw [h3]; omega) (by omega)
  rw [h2] at hr
  simpa using hr
theorem share1_n (b off c lf n : Nat) (L : List Pk) (p : Pk) (r : List Pk) (z : Rc) (w : World) (hn : n = L.length) (e0 : L = p :: r) (h : PV w (some ⟨b, off, none⟩) L) (hL : vpsB L = true) (hz : z.ok = true)
    (hl : w.heap[lf]? = some (.cells #[.int .i64 z.x, .int .i64 z.y, .int .i64 z.u, .int .i64 z.v] 37 (0, 0))) :
    Calls Try.prog 55 #[.slice (some ⟨b, off, none⟩) n c, .pointer (some ⟨lf, 0, none⟩)] w fun e w' => e = .returned (.int .i64 (moreOf L z)) ∧ Below w.heap.size w w' := by
  subst hn; exact share1_v b off c lf L p r z w e0 h hL hz hl
end Go.Proofs.Ytnkoeekgdehhiaa
