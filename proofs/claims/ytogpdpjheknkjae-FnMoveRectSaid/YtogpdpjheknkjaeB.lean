import Derived.Test.YtogpdpjheknkjaeA
import Derived.Test.YtogpdpjheknkjaeGrow
import Derived.Deep.RegionHeld3
import Derived.Deep.DrawnRows
import Derived.Deep.RegionWith
namespace Go.Proofs.Ytogpdpjheknkjae
open Go.RowKit
set_option linter.unusedVariables false
attribute [local go_sem 5000] run_mx run_mn
attribute [local go_sem ↓] Go.wp_at_zero Go.wp_at_succ
attribute [local go_sem] growUpon_value growUpon_skip growUpon_enter
theorem wp_gen {P : Program} {c : Code} {Q : Exit → Act → World → Prop} {a : Act} {W : World} (F : World → Prop) (hF : F W) (h : ∀ W0, F W0 → c.wp P Q a W0) : c.wp P Q a W := h W hF
theorem bcell3 {W w1 : World} (hb : Below W.heap.size W w1) : (∀ b o, b < W.heap.size → w1.cell? ⟨b, o, none⟩ = W.cell? ⟨b, o, none⟩) ∧ (∀ b o, b < W.heap.size → w1.frozen? ⟨b, o, none⟩ = W.frozen? ⟨b, o, none⟩) ∧ (∀ b, b < W.heap.size → b < w1.heap.size) :=
  ⟨fun b o h => hb.cell (p := ⟨b, o, none⟩) h, fun b o h => hb.frozen (p := ⟨b, o, none⟩) h, fun b h => Nat.lt_of_lt_of_le h hb.size⟩
theorem bkeep2 {W0 w1 w2 : World} (h : Below W0.heap.size W0 w1) (hb : Below w1.heap.size w1 w2) : Below W0.heap.size W0 w2 := h.trans (hb.mono h.size)
theorem bkeep {B : Nat} {W0 w1 w2 : World} (h : Below B W0 w1) (hb : Below w1.heap.size w1 w2) (hB : B ≤ w1.heap.size) : Below B W0 w2 := h.trans (hb.mono hB)
theorem specValidRect_any (x y u v : Int) (w : World) : Calls Try.prog 20 #[.agg #[.int .i64 (x), .int .i64 (y), .int .i64 (u), .int .i64 (v)]] w fun e w' => e = .returned (.bool (vr x y u v)) ∧ Below w.heap.size w w' := by
  by_cases h1 : rng u 0 400 = true
  · have g1 := rng_iff.1 h1
    obtain ⟨g11, g12⟩ := g1
    by_cases h2 : rng v 0 400 = true
    · have g2 := rng_iff.1 h2
      obtain ⟨g21, g22⟩ := g2
      by_cases h3 : rng x (-1000) (1000 - u) = true
      all_goals
        try simp only [Bool.not_eq_true] at h3
        go_enter Try.func20, Try.ntmps20
        go_wp2_with (go_at_call 21; refine (inRange_any _ _ _ _).mono ?_; rintro e w' ⟨rfl, rfl⟩)
        go_ret
        exact ⟨ret_bool (by first | rw [vr_sp1 h1 h2 h3] | rw [vr_sp2 h1 h2 h3]), (Below.refl _ _).alloc (Nat.le_refl _) _⟩
    · simp only [Bool.not_eq_true] at h2
      go_enter Try.func20, Try.ntmps20
      go_wp2_with (go_at_call 21; refine (inRange_any _ _ _ _).mono ?_; rintro e w' ⟨rfl, rfl⟩)
      go_ret
      exact ⟨ret_bool (by rw [vr_sp3 h2]), (Below.refl _ _).alloc (Nat.le_refl _) _⟩
  · simp only [Bool.not_eq_true] at h1
    go_enter Try.func20, Try.ntmps20
    go_wp2_with (go_at_call 21; refine (inRange_any _ _ _ _).mono ?_; rintro e w' ⟨rfl, rfl⟩)
    go_ret
    exact ⟨ret_bool (by rw [vr_sp4 h1]), (Below.refl _ _).alloc (Nat.le_refl _) _⟩
theorem right_any (x y u v : Int) (w : World) (hS : Sm x y u v) : Calls Try.prog 33 #[.agg #[.int .i64 (x), .int .i64 (y), .int .i64 (u), .int .i64 (v)]] w fun e w' => e = .returned (.int .i64 (x + u)) ∧ Below w.heap.size w w' := by
  obtain ⟨⟨s1, s2⟩, ⟨s3, s4⟩, ⟨s5, s6⟩, ⟨s7, s8⟩⟩ := hS.out
  clear hS
  go_enter Try.func33, Try.ntmps33
  go_wp2
  all_goals try go_quiet (fail)
  all_goals try go_wp2
  go_ret
  exact ⟨rfl, ((Below.refl _ _).alloc (Nat.le_refl _) _)⟩
theorem bottom_any (x y u v : Int) (w : World) (hS : Sm x y u v) : Calls Try.prog 34 #[.agg #[.int .i64 (x), .int .i64 (y), .int .i64 (u), .int .i64 (v)]] w fun e w' => e = .returned (.int .i64 (y + v)) ∧ Below w.heap.size w w' := by
  obtain ⟨⟨s1, s2⟩, ⟨s3, s4⟩, ⟨s5, s6⟩, ⟨s7, s8⟩⟩ := hS.out
  clear hS
  go_enter Try.func34, Try.ntmps34
  go_wp2
  all_goals try go_quiet (fail)
  all_goals try go_wp2
  go_ret
  exact ⟨rfl, ((Below.refl _ _).alloc (Nat.le_refl _) _)⟩
theorem corners_any (l t r b : Int) (w : World) (hS : Sm l t r b) :
    Calls Try.prog 32 #[.int .i64 l, .int .i64 t, .int .i64 r, .int .i64 b] w fun e w' => e = .returned (.agg #[.int .i64 (l), .int .i64 (t), .int .i64 (r - l), .int .i64 (b - t)]) ∧ Below w.heap.size w w' := by
  obtain ⟨⟨s1, s2⟩, ⟨s3, s4⟩, ⟨s5, s6⟩, ⟨s7, s8⟩⟩ := hS.out
  clear hS
  go_enter Try.func32, Try.ntmps32
  go_wp2
  exact bodyPost_ret (v := .agg #[.int .i64 (l), .int .i64 (t), .int .i64 (r - l), .int .i64 (b - t)]) (by simp [results, Try.results32, go_sem]) rfl ⟨rfl, (Below.refl _ _).alloc (Nat.le_refl _) _⟩
end Go.Proofs.Ytogpdpjheknkjae
