import Derived.Test.YtogpdpjheknkjaeKB
import Derived.Test.YtogpdpjheknkjaeC
import Derived.Test.YtogpdpjheknkjaeD
import Derived.Test.YtogpdpjheknkjaeD2
import Derived.Test.YtogpdpjheknkjaeS2
import Derived.Test.YtogpdpjheknkjaeS2c
import Derived.Test.YtogpdpjheknkjaeD3
import Derived.Test.YtogpdpjheknkjaeS3
import Derived.Test.YtogpdpjheknkjaeS3m
import Derived.Test.YtogpdpjheknkjaeD4
import Derived.Test.YtogpdpjheknkjaeS4
namespace Go.Proofs.Ytogpdpjheknkjae
open Go.RowKit
set_option linter.unusedVariables false
attribute [local go_sem 5000] run_mx run_mn run_eqlR run_neqR
attribute [local go_sem] growUpon_value growUpon_skip growUpon_enter
set_option maxHeartbeats 1000000
theorem BX.drew {l : List (Nat × Array Value)} {w : World} (h : BX l w) : BX l w.drew := fun p hp => h p hp
theorem vr_b (x y u v : Int) (b : Bool) (h1 : vr x y u v = b) (w : World) : Calls Try.prog 16 #[.agg #[.int .i64 (x), .int .i64 (y), .int .i64 (u), .int .i64 (v)]] w fun e w' => e = .returned (.bool b) ∧ Below w.heap.size w w' := by
  rw [← h1]; exact validRect_any _ _ _ _ _
theorem equalRect_same (x y u v : Int) (w : World) : Calls Try.prog 8 #[.agg #[.int .i64 (x), .int .i64 (y), .int .i64 (u), .int .i64 (v)], .agg #[.int .i64 (x), .int .i64 (y), .int .i64 (u), .int .i64 (v)]] w fun e w' => e = .returned (.bool true) ∧ Below w.heap.size w w' := by
  have h : eqR x y u v x y u v = true := eqR_self
  go_enter Try.func8, Try.ntmps8
  go_wp2
  go_ret
  exact ⟨rfl, (by repeat (first | with_reducible exact Below.refl _ _ | with_reducible assumption | with_reducible refine balloc ?_ | (with_reducible refine bset ?_ ?_; rotate_left; ((try dsimp only); omega)) | refine bkeep2 ?_ (by assumption) | with_reducible refine Below.drew ?_))⟩
theorem mul_bd {u v : Int} (h1 : 0 ≤ u) (h2 : u ≤ 400) (h3 : 0 ≤ v) (h4 : v ≤ 400) : 0 ≤ u * v ∧ u * v ≤ 160000 :=
  ⟨Int.mul_nonneg h1 h3, Int.le_trans (Int.mul_le_mul h2 h4 h3 (by omega)) (by omega)⟩
/-- a size that is neither below 0 nor too great -/
def Sz (u v : Int) : Prop := (0 ≤ u ∧ u ≤ 400) ∧ (0 ≤ v ∧ v ≤ 400)
theorem Sz_vr {x y u v : Int} (h : vr x y u v = true) : Sz u v := by rw [vr_iff] at h; exact ⟨by omega, by omega⟩
theorem move_v (x y u v p q X Y : Int) (w : World) (h : mvB x y u v p q = true) (hX : x + p = X) (hY : y + q = Y) :
    Calls Try.prog 6 #[.agg #[.int .i64 (x), .int .i64 (y), .int .i64 (u), .int .i64 (v)], .int .i64 p, .int .i64 q] w fun e w' => e = .returned (.tuple #[.agg #[.int .i64 (X), .int .i64 (Y), .int .i64 (u), .int .i64 (v)], .bool true]) ∧ Below w.heap.size w w' := by
  subst hX hY; exact MoveRect_yes _ _ _ _ _ _ _ h
end Go.Proofs.Ytogpdpjheknkjae
