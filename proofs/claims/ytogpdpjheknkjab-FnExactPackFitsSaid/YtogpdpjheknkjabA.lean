import Derived.Test.YtogpdpjheknkjabRows
import Derived.Test.YtogpdpjheknkjabMath
import Derived.WalkKit
import Derived.Below
import Derived.Lib.Hide
import Derived.Outline
import Derived.RegionTactic
import Derived.Deep.QuietTactic
import Derived.BigQuiet
namespace Go.Proofs.Ytogpdpjheknkjab
open Go.RowKit
set_option linter.unusedVariables false
theorem ret_bool {a b : Bool} (h : a = b) : Ending.returned (.bool a) = .returned (.bool b) := by rw [h]
theorem ret_int {k : IntKind} {a b : Int} (h : a = b) : Ending.returned (.int k a) = .returned (.int k b) := by rw [h]
theorem run_mx {P : Program} {w : World} (ts : Array TypeId) (t : TypeId) (k k' : IntKind) (x y : Int) : (Builtin.max_ ts t #[.int k x, .int k' y]).run P w = .ok (.int k (mx x y)) w := run_max_int2 w ts t k k' x y
theorem run_mn {P : Program} {w : World} (ts : Array TypeId) (t : TypeId) (k k' : IntKind) (x y : Int) : (Builtin.min_ ts t #[.int k x, .int k' y]).run P w = .ok (.int k (mn x y)) w := run_min_int2 w ts t k k' x y
attribute [local go_sem 5000] run_mx run_mn
theorem bcell {W w1 : World} (hb : Below W.heap.size W w1) : (∀ b o, b < W.heap.size → w1.cell? ⟨b, o, none⟩ = W.cell? ⟨b, o, none⟩) ∧ (∀ b o, b < W.heap.size → w1.frozen? ⟨b, o, none⟩ = W.frozen? ⟨b, o, none⟩) :=
  ⟨fun b o h => hb.cell (p := ⟨b, o, none⟩) h, fun b o h => hb.frozen (p := ⟨b, o, none⟩) h⟩
theorem bcell4 {W w1 : World} (hb : Below W.heap.size W w1) : (∀ b o, b < W.heap.size → w1.cell? ⟨b, o, none⟩ = W.cell? ⟨b, o, none⟩) ∧ (∀ b o, b < W.heap.size → w1.frozen? ⟨b, o, none⟩ = W.frozen? ⟨b, o, none⟩) ∧ (∀ b, b < W.heap.size → b < w1.heap.size) ∧ (∀ b, b < W.heap.size → (b = w1.heap.size) = False) :=
  ⟨fun b o h => hb.cell (p := ⟨b, o, none⟩) h, fun b o h => hb.frozen (p := ⟨b, o, none⟩) h, fun b h => Nat.lt_of_lt_of_le h hb.size, fun b h => eq_false (Nat.ne_of_lt (Nat.lt_of_lt_of_le h hb.size))⟩
theorem bcellS {W w1 : World} (hb : Below W.heap.size W w1) : ∀ b o, (W.cell? ⟨b, o, none⟩).isSome = true → w1.cell? ⟨b, o, none⟩ = W.cell? ⟨b, o, none⟩ := fun b o h => by
  obtain ⟨v, hv⟩ := Option.isSome_iff_exists.1 h
  exact hb.cell (p := ⟨b, o, none⟩) (World.block_lt_of_cell? W _ hv)
theorem within_any (n a b : Int) (w : World) : Calls Try.prog 47 #[.int .i64 n, .int .i64 a, .int .i64 b] w fun e w' => e = .returned (.bool (rng n a b)) ∧ w = w' := by
  by_cases h1 : a ≤ n <;> by_cases h2 : n ≤ b
  all_goals
    go_enter Try.func47, Try.ntmps47
    go_wp2
    go_ret
    exact ⟨ret_bool (by simp [rng, h1, h2]), rfl⟩
theorem inRange_any (n a b : Int) (w : World) : Calls Try.prog 52 #[.int .i64 n, .int .i64 a, .int .i64 b] w fun e w' => e = .returned (.bool (rng n a b)) ∧ w = w' := by
  by_cases h1 : a ≤ n <;> by_cases h2 : n ≤ b
  all_goals
    go_enter Try.func52, Try.ntmps52
    go_wp2
    go_ret
    exact ⟨ret_bool (by simp [rng, h1, h2]), rfl⟩
theorem stretch_any (a s : Int) (w : World) : Calls Try.prog 70 #[.int .i64 a, .int .i64 s] w fun e w' => e = .returned (.bool (vs a s)) ∧ w = w' := by
  by_cases h1 : rng a (-1000) 1000 = true
  · by_cases h2 : rng s 0 400 = true
    · have g1 := rng_iff.1 h1
      have g2 := rng_iff.1 h2
      obtain ⟨g11, g12⟩ := g1
      obtain ⟨g21, g22⟩ := g2
      by_cases h3 : a + s ≤ 1000
      all_goals
        go_enter Try.func70, Try.ntmps70
        go_wp2_with (go_at_call 47; refine (within_any _ _ _ _).mono ?_; rintro e w' ⟨rfl, rfl⟩)
        go_ret
        exact ⟨ret_bool (by simp [vs, *]), rfl⟩
    · simp only [Bool.not_eq_true] at h2
      go_enter Try.func70, Try.ntmps70
      go_wp2_with (go_at_call 47; refine (within_any _ _ _ _).mono ?_; rintro e w' ⟨rfl, rfl⟩)
      go_ret
      exact ⟨ret_bool (by rw [vs_no2 h2]), rfl⟩
  · simp only [Bool.not_eq_true] at h1
    go_enter Try.func70, Try.ntmps70
    go_wp2_with (go_at_call 47; refine (within_any _ _ _ _).mono ?_; rintro e w' ⟨rfl, rfl⟩)
    go_ret
    exact ⟨ret_bool (by rw [vs_no1 h1]), rfl⟩
theorem validRect_any (x y u v : Int) (w : World) : Calls Try.prog 46 #[.agg #[.int .i64 (x), .int .i64 (y), .int .i64 (u), .int .i64 (v)]] w fun e w' => e = .returned (.bool (vr x y u v)) ∧ Below w.heap.size w w' := by
  by_cases h1 : vs x u = true
  · go_enter Try.func46, Try.ntmps46
    go_wp2_with (go_at_call 70; refine (stretch_any _ _ _).mono ?_; rintro e w' ⟨rfl, rfl⟩)
    go_ret
    exact ⟨ret_bool (by rw [vr_vs h1]), (Below.refl _ _).alloc (Nat.le_refl _) _⟩
  · simp only [Bool.not_eq_true] at h1
    go_enter Try.func46, Try.ntmps46
    go_wp2_with (go_at_call 70; refine (stretch_any _ _ _).mono ?_; rintro e w' ⟨rfl, rfl⟩)
    go_ret
    exact ⟨ret_bool (by rw [vr_no_vs h1]), (Below.refl _ _).alloc (Nat.le_refl _) _⟩
theorem run_eqlR (x y u v x' y' u' v' : Int) (w : World) : (binOp .eql 42 (.agg #[.int .i64 (x), .int .i64 (y), .int .i64 (u), .int .i64 (v)]) (.agg #[.int .i64 (x'), .int .i64 (y'), .int .i64 (u'), .int .i64 (v')])).run Try.prog w = .ok (.bool (eqR x y u v x' y' u' v')) w := by
  by_cases h1 : x = x' <;> by_cases h2 : y = y' <;> by_cases h3 : u = u' <;> by_cases h4 : v = v' <;> go_simp <;> simp [eqR, h1, h2, h3, h4]
theorem run_neqR (x y u v x' y' u' v' : Int) (w : World) : (binOp .neq 42 (.agg #[.int .i64 (x), .int .i64 (y), .int .i64 (u), .int .i64 (v)]) (.agg #[.int .i64 (x'), .int .i64 (y'), .int .i64 (u'), .int .i64 (v')])).run Try.prog w = .ok (.bool (!eqR x y u v x' y' u' v')) w := by
  by_cases h1 : x = x' <;> by_cases h2 : y = y' <;> by_cases h3 : u = u' <;> by_cases h4 : v = v' <;> go_simp <;> simp [eqR, h1, h2, h3, h4]
end Go.Proofs.Ytogpdpjheknkjab
