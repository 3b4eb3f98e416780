import Derived.Test.YtnkoeekgdehhiaaC
import Derived.Test.YtnkoeekgdehhiaaIfV
import Derived.Test.YtnkoeekgdehhiaaMath3
namespace Go.Proofs.Ytnkoeekgdehhiaa
open Go.RowKit
set_option linter.unusedVariables false
attribute [local go_sem 5000] run_mx run_mn run_eqlR run_neqR
attribute [local go_sem] growUpon_value growUpon_skip growUpon_enter
set_option maxHeartbeats 1000000
theorem inset_any (x y u v p q : Int) (w : World) (h : inB x y u v p q = true) : Calls Try.prog 73 #[.agg #[.int .i64 (x), .int .i64 (y), .int .i64 (u), .int .i64 (v)], .int .i64 p, .int .i64 q] w fun e w' => e = .returned (.agg #[.int .i64 (x + mn p (u / 2)), .int .i64 (y + mn q (v / 2)), .int .i64 (mx (u - 2 * p) 0), .int .i64 (mx (v - 2 * q) 0)]) ∧ Below w.heap.size w w' := by
  obtain ⟨h1, h2, h3⟩ := inB_yes h
  obtain ⟨m1, m2, m3, m4, m5, m6, m7, m8⟩ := in_bds h
  obtain ⟨a1, a2, a3, a4, a5, a6, a7, a8⟩ := vr_iff.1 h1
  obtain ⟨b1, b2⟩ := rng_iff.1 h2
  obtain ⟨b3, b4⟩ := rng_iff.1 h3
  clear h h1 h2 h3
  go_enter Try.func73, Try.ntmps73
  go_wp2
  exact bodyPost_ret (v := .agg #[.int .i64 (x + mn p (u / 2)), .int .i64 (y + mn q (v / 2)), .int .i64 (mx (u - 2 * p) 0), .int .i64 (mx (v - 2 * q) 0)]) (by simp only [results, Try.results73]; go_simp) rfl ⟨rfl, (by repeat (first | with_reducible exact Below.refl _ _ | with_reducible assumption | with_reducible refine balloc ?_ | (with_reducible refine bset ?_ ?_; rotate_left; ((try dsimp only); omega)) | refine bkeep2 ?_ (by assumption) | with_reducible refine Below.drew ?_))⟩
end Go.Proofs.Ytnkoeekgdehhiaa
