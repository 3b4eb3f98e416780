import Derived.Test.YtmadamabcgcclaaB
import Derived.Test.YtmadamabcgcclaaMath2
namespace Go.Proofs.Ytmadamabcgcclaa
open Go.RowKit
set_option linter.unusedVariables false
attribute [local go_sem 5000] run_mx run_mn
attribute [local go_sem] growUpon_value growUpon_skip growUpon_enter
set_option maxHeartbeats 1000000
theorem has_any (x y u v p q : Int) (w : World) (h1 : vr x y u v = true) : Calls Try.prog 26 #[.agg #[.int .i64 (x), .int .i64 (y), .int .i64 (u), .int .i64 (v)], .int .i64 p, .int .i64 q] w fun e w' => e = .returned (.bool (hpB x y u v p q)) ∧ Below w.heap.size w w' := by
  have S1 := Sm_vr h1
  by_cases g1 : x ≤ p
  · by_cases g2 : p < x + u
    · by_cases g3 : y ≤ q
      · by_cases g4 : q < y + v
        all_goals
          go_enter Try.func26, Try.ntmps26
          go_wp2_with (first | (go_at_call 36; refine (right_any _ _ _ _ _ (by assumption)).mono ?_; rintro e w1 ⟨rfl, hb⟩; obtain ⟨hc, hf⟩ := bcell hb; (first | (replace hB := bkeep2 hB hb) | (replace hB := bkeep2 (balloc hB) hb) | have hB := hb); obtain ⟨hC, hF, hZ, hN⟩ := bcell4 hB) | (go_at_call 37; refine (bottom_any _ _ _ _ _ (by assumption)).mono ?_; rintro e w1 ⟨rfl, hb⟩; obtain ⟨hc, hf⟩ := bcell hb; (first | (replace hB := bkeep2 hB hb) | (replace hB := bkeep2 (balloc hB) hb) | have hB := hb); obtain ⟨hC, hF, hZ, hN⟩ := bcell4 hB))
          go_ret
          exact ⟨ret_bool (by (first | (refine Eq.symm (hpB_not.2 ?_); omega) | (refine Eq.symm (hpB_iff.2 ?_); omega) | (rw [Bool.eq_iff_iff, hpB_iff]; simp only [decide_eq_true_eq]; omega))), (by repeat (first | exact Below.refl _ _ | assumption | refine balloc ?_ | (refine bset ?_ ?_; rotate_left; ((try dsimp only); omega)) | refine bkeep2 ?_ (by assumption) | refine Below.drew ?_))⟩
      · go_enter Try.func26, Try.ntmps26
        go_wp2_with (first | (go_at_call 36; refine (right_any _ _ _ _ _ (by assumption)).mono ?_; rintro e w1 ⟨rfl, hb⟩; obtain ⟨hc, hf⟩ := bcell hb; (first | (replace hB := bkeep2 hB hb) | (replace hB := bkeep2 (balloc hB) hb) | have hB := hb); obtain ⟨hC, hF, hZ, hN⟩ := bcell4 hB) | (go_at_call 37; refine (bottom_any _ _ _ _ _ (by assumption)).mono ?_; rintro e w1 ⟨rfl, hb⟩; obtain ⟨hc, hf⟩ := bcell hb; (first | (replace hB := bkeep2 hB hb) | (replace hB := bkeep2 (balloc hB) hb) | have hB := hb); obtain ⟨hC, hF, hZ, hN⟩ := bcell4 hB))
        go_ret
        exact ⟨ret_bool (by (first | (refine Eq.symm (hpB_not.2 ?_); omega) | (refine Eq.symm (hpB_iff.2 ?_); omega) | (rw [Bool.eq_iff_iff, hpB_iff]; simp only [decide_eq_true_eq]; omega))), (by repeat (first | exact Below.refl _ _ | assumption | refine balloc ?_ | (refine bset ?_ ?_; rotate_left; ((try dsimp only); omega)) | refine bkeep2 ?_ (by assumption) | refine Below.drew ?_))⟩
    · go_enter Try.func26, Try.ntmps26
      go_wp2_with (first | (go_at_call 36; refine (right_any _ _ _ _ _ (by assumption)).mono ?_; rintro e w1 ⟨rfl, hb⟩; obtain ⟨hc, hf⟩ := bcell hb; (first | (replace hB := bkeep2 hB hb) | (replace hB := bkeep2 (balloc hB) hb) | have hB := hb); obtain ⟨hC, hF, hZ, hN⟩ := bcell4 hB) | (go_at_call 37; refine (bottom_any _ _ _ _ _ (by assumption)).mono ?_; rintro e w1 ⟨rfl, hb⟩; obtain ⟨hc, hf⟩ := bcell hb; (first | (replace hB := bkeep2 hB hb) | (replace hB := bkeep2 (balloc hB) hb) | have hB := hb); obtain ⟨hC, hF, hZ, hN⟩ := bcell4 hB))
      go_ret
      exact ⟨ret_bool (by (first | (refine Eq.symm (hpB_not.2 ?_); omega) | (refine Eq.symm (hpB_iff.2 ?_); omega) | (rw [Bool.eq_iff_iff, hpB_iff]; simp only [decide_eq_true_eq]; omega))), (by repeat (first | exact Below.refl _ _ | assumption | refine balloc ?_ | (refine bset ?_ ?_; rotate_left; ((try dsimp only); omega)) | refine bkeep2 ?_ (by assumption) | refine Below.drew ?_))⟩
  · go_enter Try.func26, Try.ntmps26
    go_wp2_with (first | (go_at_call 36; refine (right_any _ _ _ _ _ (by assumption)).mono ?_; rintro e w1 ⟨rfl, hb⟩; obtain ⟨hc, hf⟩ := bcell hb; (first | (replace hB := bkeep2 hB hb) | (replace hB := bkeep2 (balloc hB) hb) | have hB := hb); obtain ⟨hC, hF, hZ, hN⟩ := bcell4 hB) | (go_at_call 37; refine (bottom_any _ _ _ _ _ (by assumption)).mono ?_; rintro e w1 ⟨rfl, hb⟩; obtain ⟨hc, hf⟩ := bcell hb; (first | (replace hB := bkeep2 hB hb) | (replace hB := bkeep2 (balloc hB) hb) | have hB := hb); obtain ⟨hC, hF, hZ, hN⟩ := bcell4 hB))
    go_ret
    exact ⟨ret_bool (by (first | (refine Eq.symm (hpB_not.2 ?_); omega) | (refine Eq.symm (hpB_iff.2 ?_); omega) | (rw [Bool.eq_iff_iff, hpB_iff]; simp only [decide_eq_true_eq]; omega))), (by repeat (first | exact Below.refl _ _ | assumption | refine balloc ?_ | (refine bset ?_ ?_; rotate_left; ((try dsimp only); omega)) | refine bkeep2 ?_ (by assumption) | refine Below.drew ?_))⟩
theorem shasPoint_any (x y u v p q : Int) (w : World) (h1 : vr x y u v = true) : Calls Try.prog 25 #[.agg #[.int .i64 (x), .int .i64 (y), .int .i64 (u), .int .i64 (v)], .int .i64 p, .int .i64 q] w fun e w' => e = .returned (.bool (hpB x y u v p q)) ∧ Below w.heap.size w w' := by
  obtain ⟨⟨s1, s2⟩, ⟨s3, s4⟩, ⟨s5, s6⟩, ⟨s7, s8⟩⟩ := (Sm_vr h1).out
  rw [hpB_sp]
  cases g : rng p x (x + u - 1)
  all_goals
    go_enter Try.func25, Try.ntmps25
    go_wp2_with (go_at_call 33; refine (inRange_any _ _ _ _).mono ?_; rintro e w' ⟨rfl, rfl⟩)
    go_ret
    exact ⟨ret_bool (by simp), (by repeat (first | exact Below.refl _ _ | assumption | refine balloc ?_ | (refine bset ?_ ?_; rotate_left; ((try dsimp only); omega)) | refine bkeep2 ?_ (by assumption) | refine Below.drew ?_))⟩
theorem HasPoint_yes (x y u v p q : Int) (w : World) (h1 : vr x y u v = true) : Calls Try.prog 13 #[.agg #[.int .i64 (x), .int .i64 (y), .int .i64 (u), .int .i64 (v)], .int .i64 p, .int .i64 q] w fun e w' => e = .returned (.bool (hpB x y u v p q)) ∧ Below w.heap.size w w' := by
  go_enter Try.func13, Try.ntmps13
  go_wp2_with (first | (go_at_call 11; refine (validRect_any _ _ _ _ _).mono ?_; rintro e w1 ⟨rfl, hb⟩; obtain ⟨hc, hf⟩ := bcell hb; (first | (replace hB := bkeep2 hB hb) | (replace hB := bkeep2 (balloc hB) hb) | have hB := hb); obtain ⟨hC, hF, hZ, hN⟩ := bcell4 hB) | (go_at_call 26; refine (has_any _ _ _ _ _ _ _ h1).mono ?_; rintro e w1 ⟨rfl, hb⟩; obtain ⟨hc, hf⟩ := bcell hb; (first | (replace hB := bkeep2 hB hb) | (replace hB := bkeep2 (balloc hB) hb) | have hB := hb); obtain ⟨hC, hF, hZ, hN⟩ := bcell4 hB))
  go_ret
  exact ⟨ret_bool rfl, (by repeat (first | exact Below.refl _ _ | assumption | refine balloc ?_ | (refine bset ?_ ?_; rotate_left; ((try dsimp only); omega)) | refine bkeep2 ?_ (by assumption) | refine Below.drew ?_))⟩
theorem HasPoint_no (x y u v p q : Int) (w : World) (h1 : vr x y u v = false) : Calls Try.prog 13 #[.agg #[.int .i64 (x), .int .i64 (y), .int .i64 (u), .int .i64 (v)], .int .i64 p, .int .i64 q] w fun e w' => e = .returned (.bool false) ∧ Below w.heap.size w w' := by
  go_enter Try.func13, Try.ntmps13
  go_wp2_with (first | (go_at_call 11; refine (validRect_any _ _ _ _ _).mono ?_; rintro e w1 ⟨rfl, hb⟩; obtain ⟨hc, hf⟩ := bcell hb; (first | (replace hB := bkeep2 hB hb) | (replace hB := bkeep2 (balloc hB) hb) | have hB := hb); obtain ⟨hC, hF, hZ, hN⟩ := bcell4 hB))
  go_ret
  exact ⟨ret_bool rfl, (by repeat (first | exact Below.refl _ _ | assumption | refine balloc ?_ | (refine bset ?_ ?_; rotate_left; ((try dsimp only); omega)) | refine bkeep2 ?_ (by assumption) | refine Below.drew ?_))⟩
theorem sHasPoint_yes (x y u v p q : Int) (w : World) (h1 : vr x y u v = true) : Calls Try.prog 12 #[.agg #[.int .i64 (x), .int .i64 (y), .int .i64 (u), .int .i64 (v)], .int .i64 p, .int .i64 q] w fun e w' => e = .returned (.bool (hpB x y u v p q)) ∧ Below w.heap.size w w' := by
  go_enter Try.func12, Try.ntmps12
  go_wp2_with (first | (go_at_call 23; refine (specValidRect_any _ _ _ _ _).mono ?_; rintro e w1 ⟨rfl, hb⟩; obtain ⟨hc, hf⟩ := bcell hb; (first | (replace hB := bkeep2 hB hb) | (replace hB := bkeep2 (balloc hB) hb) | have hB := hb); obtain ⟨hC, hF, hZ, hN⟩ := bcell4 hB) | (go_at_call 25; refine (shasPoint_any _ _ _ _ _ _ _ h1).mono ?_; rintro e w1 ⟨rfl, hb⟩; obtain ⟨hc, hf⟩ := bcell hb; (first | (replace hB := bkeep2 hB hb) | (replace hB := bkeep2 (balloc hB) hb) | have hB := hb); obtain ⟨hC, hF, hZ, hN⟩ := bcell4 hB))
  go_ret
  exact ⟨ret_bool rfl, (by repeat (first | exact Below.refl _ _ | assumption | refine balloc ?_ | (refine bset ?_ ?_; rotate_left; ((try dsimp only); omega)) | refine bkeep2 ?_ (by assumption) | refine Below.drew ?_))⟩
theorem sHasPoint_no (x y u v p q : Int) (w : World) (h1 : vr x y u v = false) : Calls Try.prog 12 #[.agg #[.int .i64 (x), .int .i64 (y), .int .i64 (u), .int .i64 (v)], .int .i64 p, .int .i64 q] w fun e w' => e = .returned (.bool false) ∧ Below w.heap.size w w' := by
  go_enter Try.func12, Try.ntmps12
  go_wp2_with (first | (go_at_call 23; refine (specValidRect_any _ _ _ _ _).mono ?_; rintro e w1 ⟨rfl, hb⟩; obtain ⟨hc, hf⟩ := bcell hb; (first | (replace hB := bkeep2 hB hb) | (replace hB := bkeep2 (balloc hB) hb) | have hB := hb); obtain ⟨hC, hF, hZ, hN⟩ := bcell4 hB))
  go_ret
  exact ⟨ret_bool rfl, (by repeat (first | exact Below.refl _ _ | assumption | refine balloc ?_ | (refine bset ?_ ?_; rotate_left; ((try dsimp only); omega)) | refine bkeep2 ?_ (by assumption) | refine Below.drew ?_))⟩
end Go.Proofs.Ytmadamabcgcclaa
