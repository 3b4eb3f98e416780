import Derived.Test.YtnkoeekgdehhiaaPE
import Derived.Test.YtnkoeekgdehhiaaMath6
import Derived.Test.YtnkoeekgdehhiaaB
namespace Go.Proofs.Ytnkoeekgdehhiaa
open Go.RowKit
set_option linter.unusedVariables false
set_option maxHeartbeats 1000000
attribute [local go_sem 5000] run_mx run_mn
theorem belowN' {B : Nat} {a w : World} (h : Below B a w) (n : Nat) : Below B a (w.drewN n) := ⟨h.os, h.tape, h.output, h.size, h.block⟩
theorem pbd {p : Pk} (h : p.ok = true) : ((0 ≤ p.w ∧ p.w ≤ 30) ∧ (0 ≤ p.h ∧ p.h ≤ 30) ∧ (0 ≤ p.s ∧ p.s ≤ 3) ∧ (0 ≤ p.an ∧ p.an ≤ 8) ∧ (0 ≤ p.px ∧ p.px ≤ 10) ∧ (0 ≤ p.py ∧ p.py ≤ 10)) := vpB_iff.1 h
theorem isDown_x (p : Pk) (ex : Bool) (w : World) : Calls Try.prog 49 #[.agg #[.int .i64 p.w, .int .i64 p.h, .int .i64 p.s, .bool p.fx, .bool p.fy, .bool ex, .int .i64 p.an, .int .i64 p.px, .int .i64 p.py]] w fun e w' => e = .returned (.bool p.down) ∧ Below w.heap.size w w' := by
  by_cases h0 : p.s = 0
  · have e0 : (p.s == 0) = true := by simpa using h0
    go_enter Try.func49, Try.ntmps49
    go_wp2
    go_ret
    exact ⟨ret_bool (by simp [Pk.down, h0]), balloc (Below.refl _ _)⟩
  · have e0 : (p.s == 0) = false := by simpa using h0
    by_cases h1 : p.s = 1
    · have e1 : (p.s == 1) = true := by simpa using h1
      go_enter Try.func49, Try.ntmps49
      go_wp2
      go_ret
      exact ⟨ret_bool (by simp [Pk.down, h1]), balloc (Below.refl _ _)⟩
    · have e1 : (p.s == 1) = false := by simpa using h1
      go_enter Try.func49, Try.ntmps49
      go_wp2
      go_ret
      exact ⟨ret_bool (by simp [Pk.down, h0, h1]), balloc (Below.refl _ _)⟩
theorem isDown_v (p : Pk) (w : World) : Calls Try.prog 49 #[.agg #[.int .i64 p.w, .int .i64 p.h, .int .i64 p.s, .bool p.fx, .bool p.fy, .bool p.ex, .int .i64 p.an, .int .i64 p.px, .int .i64 p.py]] w fun e w' => e = .returned (.bool p.down) ∧ Below w.heap.size w w' := isDown_x p p.ex w
theorem upright_v (s : Int) (w : World) : Calls Try.prog 46 #[.int .i64 s] w fun e w' => e = .returned (.bool (decide (s = 0 ∨ s = 1))) ∧ w = w' := by
  by_cases h0 : s = 0
  · have e0 : (s == 0) = true := by simpa using h0
    go_enter Try.func46, Try.ntmps46
    go_wp2
    go_ret
    exact ⟨ret_bool (by simp [h0]), rfl⟩
  · have e0 : (s == 0) = false := by simpa using h0
    by_cases h1 : s = 1
    · have e1 : (s == 1) = true := by simpa using h1
      go_enter Try.func46, Try.ntmps46
      go_wp2
      go_ret
      exact ⟨ret_bool (by simp [h1]), rfl⟩
    · have e1 : (s == 1) = false := by simpa using h1
      go_enter Try.func46, Try.ntmps46
      go_wp2
      go_ret
      exact ⟨ret_bool (by simp [h0, h1]), rfl⟩
theorem need_v (p : Pk) (d : Bool) (w : World) (h : p.ok = true) : Calls Try.prog 50 #[.agg #[.int .i64 p.w, .int .i64 p.h, .int .i64 p.s, .bool p.fx, .bool p.fy, .bool p.ex, .int .i64 p.an, .int .i64 p.px, .int .i64 p.py], .bool d] w fun e w' => e = .returned (.int .i64 (p.need d)) ∧ Below w.heap.size w w' := by
  obtain ⟨⟨a1, a2⟩, ⟨a3, a4⟩, _, _, ⟨a5, a6⟩, ⟨a7, a8⟩⟩ := pbd h
  cases d
  all_goals
    go_enter Try.func50, Try.ntmps50
    go_wp2
    go_ret
    exact ⟨ret_int rfl, balloc (Below.refl _ _)⟩
theorem outer_v (p : Pk) (w : World) (h : p.ok = true) : Calls Try.prog 45 #[.agg #[.int .i64 p.w, .int .i64 p.h, .int .i64 p.s, .bool p.fx, .bool p.fy, .bool p.ex, .int .i64 p.an, .int .i64 p.px, .int .i64 p.py]] w fun e w' => e = .returned (.tuple #[.int .i64 (p.need false), .int .i64 (p.need true)]) ∧ Below w.heap.size w w' := by
  obtain ⟨⟨a1, a2⟩, ⟨a3, a4⟩, _, _, ⟨a5, a6⟩, ⟨a7, a8⟩⟩ := pbd h
  have e1 : IntKind.i64.wrap (2 * p.px) = 2 * p.px := IntWalk.i64_in _ (by omega)
  have e2 : IntKind.i64.wrap (2 * p.py) = 2 * p.py := IntWalk.i64_in _ (by omega)
  have e3 : IntKind.i64.wrap (p.w + 2 * p.px) = p.w + 2 * p.px := IntWalk.i64_in _ (by omega)
  have e4 : IntKind.i64.wrap (p.h + 2 * p.py) = p.h + 2 * p.py := IntWalk.i64_in _ (by omega)
  go_enter Try.func45, Try.ntmps45
  go_wp2_with fail
  go_quiet (fail)
  clear e1 e2 e3 e4
  go_wp2
  go_ret2
  exact ⟨rfl, belowN' (balloc (Below.refl _ _)) _⟩
theorem half_v (r n : Int) (w : World) (h1 : -1000 ≤ r) (h2 : r ≤ 1000) (h3 : 1 ≤ n) (h4 : n ≤ 1000) : Calls Try.prog 69 #[.int .i64 r, .int .i64 n] w fun e w' => e = .returned (.int .i64 (mx r 0 / n)) ∧ w = w' := by
  rw [← halfI_eq]
  by_cases h : r < 0
  · go_enter Try.func69, Try.ntmps69
    go_wp2
    go_ret
    exact ⟨ret_int (by unfold halfI; rw [if_pos h]), rfl⟩
  · have hd : decide (r < 0) = false := by simpa using h
    have h0 : 0 ≤ r := by omega
    have hn : ¬ n = 0 := by omega
    go_enter Try.func69, Try.ntmps69
    go_wp2
    go_ret
    exact ⟨ret_int (by unfold halfI; rw [if_neg (by omega)]), rfl⟩
end Go.Proofs.Ytnkoeekgdehhiaa
