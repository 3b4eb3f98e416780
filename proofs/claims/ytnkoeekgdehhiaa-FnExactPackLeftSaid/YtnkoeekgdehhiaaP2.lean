import Derived.Test.YtnkoeekgdehhiaaP1
namespace Go.Proofs.Ytnkoeekgdehhiaa
open Go.RowKit
set_option linter.unusedVariables false
set_option maxHeartbeats 1000000
theorem cellH {w : World} {b : Nat} {cs : Array Value} {T : TypeId} {fz : Nat × Nat} (h : w.heap[b]? = some (.cells cs T fz)) (i : Nat) : w.cell? ⟨b, i, none⟩ = cs[i]? := by simp [World.cell?, h]
theorem heap_new (w : World) (o : Obj) : (w.alloc o).heap[w.heap.size]? = some o := by
  show (w.heap.push o)[w.heap.size]? = some o
  simp
theorem b9c {w : World} {b : Nat} {a0 a1 a2 a3 a4 a5 a6 a7 a8 : Value} {T : TypeId} {fz : Nat × Nat} (h : w.heap[b]? = some (.cells #[a0, a1, a2, a3, a4, a5, a6, a7, a8] T fz)) :
    w.cell? ⟨b, 0, none⟩ = some a0 ∧ w.cell? ⟨b, 1, none⟩ = some a1 ∧ w.cell? ⟨b, 2, none⟩ = some a2 ∧ w.cell? ⟨b, 3, none⟩ = some a3 ∧ w.cell? ⟨b, 4, none⟩ = some a4 ∧ w.cell? ⟨b, 5, none⟩ = some a5 ∧ w.cell? ⟨b, 6, none⟩ = some a6 ∧ w.cell? ⟨b, 7, none⟩ = some a7 ∧ w.cell? ⟨b, 8, none⟩ = some a8 :=
  ⟨cellH h 0, cellH h 1, cellH h 2, cellH h 3, cellH h 4, cellH h 5, cellH h 6, cellH h 7, cellH h 8⟩
set_option maxRecDepth 100000 in
theorem toPack_any (w0 h0 s : Int) (fx fy ex : Bool) (an px py : Int) (w : World) : Calls Try.prog 31 #[.agg #[.int .i64 w0, .int .i64 h0, .int .i64 s, .bool fx, .bool fy, .bool ex, .int .i64 an, .int .i64 px, .int .i64 py]] w fun e w' => e = .returned (.agg #[.int .i64 w0, .int .i64 h0, .int .i64 s, .bool fx, .bool fy, .bool ex, .int .i64 an, .int .i64 px, .int .i64 py]) ∧ Below w.heap.size w w' := by
  go_enter Try.func31, Try.ntmps31
  go_wp2
  exact bodyPost_ret (v := .agg #[.int .i64 w0, .int .i64 h0, .int .i64 s, .bool fx, .bool fy, .bool ex, .int .i64 an, .int .i64 px, .int .i64 py]) (by simp only [results, Try.results31]; go_simp) rfl ⟨rfl, (by repeat (first | with_reducible exact Below.refl _ _ | with_reducible assumption | with_reducible refine balloc ?_ | (with_reducible refine bset ?_ ?_; rotate_left; ((try dsimp only); omega)) | refine bkeep2 ?_ (by assumption) | with_reducible refine Below.drew ?_))⟩
end Go.Proofs.Ytnkoeekgdehhiaa
