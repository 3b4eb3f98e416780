import Derived.Test.YtogpdpjheknkjacKB
import Derived.Test.YtogpdpjheknkjacC
import Derived.Test.YtogpdpjheknkjacD
import Derived.Test.YtogpdpjheknkjacD2
import Derived.Test.YtogpdpjheknkjacS2
import Derived.Test.YtogpdpjheknkjacS2c
import Derived.Test.YtogpdpjheknkjacD3
import Derived.Test.YtogpdpjheknkjacS3
import Derived.Test.YtogpdpjheknkjacS3m
import Derived.Test.YtogpdpjheknkjacD4
import Derived.Test.YtogpdpjheknkjacS4
namespace Go.Proofs.Ytogpdpjheknkjac
open Go.RowKit
set_option linter.unusedVariables false
attribute [local go_sem 5000] run_mx run_mn run_eqlR run_neqR
attribute [local go_sem] growUpon_value growUpon_skip growUpon_enter
set_option maxHeartbeats 1000000
theorem BX.drew {l : List (Nat × Array Value)} {w : World} (h : BX l w) : BX l w.drew := fun p hp => h p hp
theorem in_b (x y u v x' y' u' v' : Int) (b : Bool) (h : (vr x y u v && (vr x' y' u' v' && insB x y u v x' y' u' v')) = b) (w : World) : Calls Try.prog 23 #[.agg #[.int .i64 (x), .int .i64 (y), .int .i64 (u), .int .i64 (v)], .agg #[.int .i64 (x'), .int .i64 (y'), .int .i64 (u'), .int .i64 (v')]] w fun e w' => e = .returned (.bool b) ∧ Below w.heap.size w w' := by
  rw [← h]; exact InsideRect_any _ _ _ _ _ _ _ _ _
theorem vr_b (x y u v : Int) (b : Bool) (h1 : vr x y u v = b) (w : World) : Calls Try.prog 22 #[.agg #[.int .i64 (x), .int .i64 (y), .int .i64 (u), .int .i64 (v)]] w fun e w' => e = .returned (.bool b) ∧ Below w.heap.size w w' := by
  rw [← h1]; exact validRect_any _ _ _ _ _
theorem equalRect_same (x y u v : Int) (w : World) : Calls Try.prog 20 #[.agg #[.int .i64 (x), .int .i64 (y), .int .i64 (u), .int .i64 (v)], .agg #[.int .i64 (x), .int .i64 (y), .int .i64 (u), .int .i64 (v)]] w fun e w' => e = .returned (.bool true) ∧ Below w.heap.size w w' := by
  have h : eqR x y u v x y u v = true := eqR_self
  go_enter Try.func20, Try.ntmps20
  go_wp2
  go_ret
  exact ⟨rfl, (by repeat (first | with_reducible exact Below.refl _ _ | with_reducible assumption | with_reducible refine balloc ?_ | (with_reducible refine bset ?_ ?_; rotate_left; ((try dsimp only); omega)) | refine bkeep2 ?_ (by assumption) | with_reducible refine Below.drew ?_))⟩
theorem mul_bd {u v : Int} (h1 : 0 ≤ u) (h2 : u ≤ 400) (h3 : 0 ≤ v) (h4 : v ≤ 400) : 0 ≤ u * v ∧ u * v ≤ 160000 :=
  ⟨Int.mul_nonneg h1 h3, Int.le_trans (Int.mul_le_mul h2 h4 h3 (by omega)) (by omega)⟩
/-- a size that is neither below 0 nor too great -/
def Sz (u v : Int) : Prop := (0 ≤ u ∧ u ≤ 400) ∧ (0 ≤ v ∧ v ≤ 400)
theorem Sz_vr {x y u v : Int} (h : vr x y u v = true) : Sz u v := by rw [vr_iff] at h; exact ⟨by omega, by omega⟩
theorem area_any (x y u v : Int) (hS : Sz u v) (w : World) : Calls Try.prog 32 #[.agg #[.int .i64 (x), .int .i64 (y), .int .i64 (u), .int .i64 (v)]] w fun e w' => e = .returned (.int .i64 (u * v)) ∧ Below w.heap.size w w' := by
  obtain ⟨⟨h1, h2⟩, h3, h4⟩ := hS
  obtain ⟨h5, h6⟩ := mul_bd h1 h2 h3 h4
  go_enter Try.func32, Try.ntmps32
  go_wp2_with fail
  all_goals try go_quiet (fail)
  all_goals try go_wp2
  go_ret
  exact ⟨rfl, (by repeat (first | with_reducible exact Below.refl _ _ | with_reducible assumption | with_reducible refine balloc ?_ | (with_reducible refine bset ?_ ?_; rotate_left; ((try dsimp only); omega)) | refine bkeep2 ?_ (by assumption) | with_reducible refine Below.drew ?_))⟩
theorem meet_v (x y u v x' y' u' v' X Y U V : Int) (w : World) (h : meetB x y u v x' y' u' v' = true) (hX : mx x x' = X) (hY : mx y y' = Y) (hU : mn (x + u) (x' + u') - X = U) (hV : mn (y + v) (y' + v') - Y = V) :
    Calls Try.prog 30 #[.agg #[.int .i64 (x), .int .i64 (y), .int .i64 (u), .int .i64 (v)], .agg #[.int .i64 (x'), .int .i64 (y'), .int .i64 (u'), .int .i64 (v')]] w fun e w' => e = .returned (.tuple #[.agg #[.int .i64 (X), .int .i64 (Y), .int .i64 (U), .int .i64 (V)], .bool true]) ∧ Below w.heap.size w w' := by
  subst hX hY hU hV; exact MeetRects_yes _ _ _ _ _ _ _ _ _ h
theorem cover_v (x y u v x' y' u' v' X Y U V : Int) (w : World) (h : coverB x y u v x' y' u' v' = true) (hX : mn x x' = X) (hY : mn y y' = Y) (hU : mx (x + u) (x' + u') - X = U) (hV : mx (y + v) (y' + v') - Y = V) :
    Calls Try.prog 31 #[.agg #[.int .i64 (x), .int .i64 (y), .int .i64 (u), .int .i64 (v)], .agg #[.int .i64 (x'), .int .i64 (y'), .int .i64 (u'), .int .i64 (v')]] w fun e w' => e = .returned (.tuple #[.agg #[.int .i64 (X), .int .i64 (Y), .int .i64 (U), .int .i64 (V)], .bool true]) ∧ Below w.heap.size w w' := by
  subst hX hY hU hV; exact CoverRects_yes _ _ _ _ _ _ _ _ _ h
theorem anchor_v (x y u v p q k X Y U V : Int) (w : World) (h : anB x y u v p q k = true) (hX : x + (u - mn p u) * (k % 3) / 2 = X) (hY : y + (v - mn q v) * (k / 3) / 2 = Y) (hU : mn p u = U) (hV : mn q v = V) :
    Calls Try.prog 25 #[.agg #[.int .i64 (x), .int .i64 (y), .int .i64 (u), .int .i64 (v)], .int .i64 p, .int .i64 q, .int .i64 k] w fun e w' => e = .returned (.agg #[.int .i64 (X), .int .i64 (Y), .int .i64 (U), .int .i64 (V)]) ∧ Below w.heap.size w w' := by
  subst hX hY hU hV; exact AnchorRect_yes _ _ _ _ _ _ _ _ h
theorem sanchor_v (x y u v p q k X Y U V : Int) (w : World) (h : anB x y u v p q k = true) (hX : x + (u - mn p u) * (k % 3) / 2 = X) (hY : y + (v - mn q v) * (k / 3) / 2 = Y) (hU : mn p u = U) (hV : mn q v = V) :
    Calls Try.prog 26 #[.agg #[.int .i64 (x), .int .i64 (y), .int .i64 (u), .int .i64 (v)], .int .i64 p, .int .i64 q, .int .i64 k] w fun e w' => e = .returned (.agg #[.int .i64 (X), .int .i64 (Y), .int .i64 (U), .int .i64 (V)]) ∧ Below w.heap.size w w' := by
  subst hX hY hU hV; exact sAnchorRect_yes _ _ _ _ _ _ _ _ h
theorem inset_v (x y u v p q X Y U V : Int) (w : World) (h : inB x y u v p q = true) (hX : x + mn p (u / 2) = X) (hY : y + mn q (v / 2) = Y) (hU : mx (u - 2 * p) 0 = U) (hV : mx (v - 2 * q) 0 = V) :
    Calls Try.prog 19 #[.agg #[.int .i64 (x), .int .i64 (y), .int .i64 (u), .int .i64 (v)], .int .i64 p, .int .i64 q] w fun e w' => e = .returned (.agg #[.int .i64 (X), .int .i64 (Y), .int .i64 (U), .int .i64 (V)]) ∧ Below w.heap.size w w' := by
  subst hX hY hU hV; exact InsetRect_yes _ _ _ _ _ _ _ h
theorem sinset_v (x y u v p q X Y U V : Int) (w : World) (h : inB x y u v p q = true) (hX : x + mn p (u / 2) = X) (hY : y + mn q (v / 2) = Y) (hU : mx (u - 2 * p) 0 = U) (hV : mx (v - 2 * q) 0 = V) :
    Calls Try.prog 21 #[.agg #[.int .i64 (x), .int .i64 (y), .int .i64 (u), .int .i64 (v)], .int .i64 p, .int .i64 q] w fun e w' => e = .returned (.agg #[.int .i64 (X), .int .i64 (Y), .int .i64 (U), .int .i64 (V)]) ∧ Below w.heap.size w w' := by
  subst hX hY hU hV; exact sInsetRect_yes _ _ _ _ _ _ _ h
end Go.Proofs.Ytogpdpjheknkjac
