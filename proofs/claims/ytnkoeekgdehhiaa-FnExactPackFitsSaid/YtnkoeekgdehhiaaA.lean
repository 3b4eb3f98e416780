import Derived.Test.YtnkoeekgdehhiaaRows
import Derived.Test.YtnkoeekgdehhiaaMath
import Derived.WalkKit
import Derived.Below
import Derived.Lib.Hide
import Derived.Outline
import Derived.RegionTactic
import Derived.Deep.QuietTactic
import Derived.BigQuiet
namespace Go.Proofs.Ytnkoeekgdehhiaa
open Go.RowKit
set_option linter.unusedVariables false
theorem ret_bool {a b : Bool} (h : a = b) : Ending.returned (.bool a) = .returned (.bool b) := by rw [h]
theorem ret_int {k : IntKind} {a b : Int} (h : a = b) : Ending.returned (.int k a) = .returned (.int k b) := by rw [h]
theorem run_mx {P : Program} {w : World} (ts : Array TypeId) (t : TypeId) (k k' : IntKind) (x y : Int) : (Builtin.max_ ts t #[.int k x, .int k' y]).run P w = .ok (.int k (mx x y)) w := run_max_int2 w ts t k k' x y
theorem run_mn {P : Program} {w : World} (ts : Array TypeId) (t : TypeId) (k k' : IntKind) (x y : Int) : (Builtin.min_ ts t #[.int k x, .int k' y]).run P w = .ok (.int k (mn x y)) w := run_min_int2 w ts t k k' x y
attribute [local go_sem 5000] run_mx run_mn
theorem bcell {W w1 : World} (hb : Below W.heap.size W w1) : (∀ b o, b < W.heap.size → w1.cell? ⟨b, o, none⟩ = W.cell? ⟨b, o, none⟩) ∧ (∀ b o, b < W.heap.size → w1.frozen? ⟨b, o, none⟩ = W.frozen? ⟨b, o, none⟩) :=
  ⟨fun b o h => hb.cell (p := ⟨b, o, none⟩) h, fun b o h => hb.frozen (p := ⟨b, o, none⟩) h⟩
theorem bcell4 {W w1 : World} (hb : Below W.heap.size W w1) : (∀ b o, b < W.heap.size → w1.cell? ⟨b, o, none⟩ = W.cell? ⟨b, o, none⟩) ∧ (∀ b o, b < W.heap.size → w1.frozen? ⟨b, o, none⟩ = W.frozen? ⟨b, o, none⟩) ∧ (∀ b, b < W.heap.size → b < w1.heap.size) ∧ (∀ b, b < W.heap.size → (b = w1.heap.size) = False) :=
  ⟨fun b o h => hb.cell (p := ⟨b, o, none⟩) h, fun b o h => hb.frozen (p := ⟨b, o, none⟩) h, fun b h => Nat.lt_of_lt_of_le h hb.size, fun b h => eq_false (Nat.ne_of_lt (Nat.lt_of_lt_of_le h hb.size))⟩
theorem bcellS {W w1 : World} (hb : Below W.heap.size W w1) : ∀ b o, (W.cell? ⟨b, o, none⟩).isSome = true → w1.cell? ⟨b, o, none⟩ = W.cell? ⟨b, o, none⟩ := fun b o h => by
  obtain ⟨v, hv⟩ := Option.isSome_iff_exists.1 h
  exact hb.cell (p := ⟨b, o, none⟩) (World.block_lt_of_cell? W _ hv)
theorem within_any (n a b : Int) (w : World) : Calls Try.prog 54 #[.int .i64 n, .int .i64 a, .int .i64 b] w fun e w' => e = .returned (.bool (rng n a b)) ∧ w = w' := by
  by_cases h1 : a ≤ n <;> by_cases h2 : n ≤ b
  all_goals
    go_enter Try.func54, Try.ntmps54
    go_wp2
    go_ret
    exact ⟨ret_bool (by simp [rng, h1, h2]), rfl⟩
theorem inRange_any (n a b : Int) (w : World) : Calls Try.prog 51 #[.int .i64 n, .int .i64 a, .int .i64 b] w fun e w' => e = .returned (.bool (rng n a b)) ∧ w = w' := by
  by_cases h1 : a ≤ n <;> by_cases h2 : n ≤ b
  all_goals
    go_enter Try.func51, Try.ntmps51
    go_wp2
    go_ret
    exact ⟨ret_bool (by simp [rng, h1, h2]), rfl⟩
theorem run_eqlR (x y u v x' y' u' v' : Int) (w : World) : (binOp .eql 37 (.agg #[.int .i64 (x), .int .i64 (y), .int .i64 (u), .int .i64 (v)]) (.agg #[.int .i64 (x'), .int .i64 (y'), .int .i64 (u'), .int .i64 (v')])).run Try.prog w = .ok (.bool (eqR x y u v x' y' u' v')) w := by
  by_cases h1 : x = x' <;> by_cases h2 : y = y' <;> by_cases h3 : u = u' <;> by_cases h4 : v = v' <;> go_simp <;> simp [eqR, h1, h2, h3, h4]
theorem run_neqR (x y u v x' y' u' v' : Int) (w : World) : (binOp .neq 37 (.agg #[.int .i64 (x), .int .i64 (y), .int .i64 (u), .int .i64 (v)]) (.agg #[.int .i64 (x'), .int .i64 (y'), .int .i64 (u'), .int .i64 (v')])).run Try.prog w = .ok (.bool (!eqR x y u v x' y' u' v')) w := by
  by_cases h1 : x = x' <;> by_cases h2 : y = y' <;> by_cases h3 : u = u' <;> by_cases h4 : v = v' <;> go_simp <;> simp [eqR, h1, h2, h3, h4]
end Go.Proofs.Ytnkoeekgdehhiaa
