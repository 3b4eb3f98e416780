import Derived.Test.YtogpdpjheknkjabC
import Derived.Test.YtogpdpjheknkjabIfV
import Derived.Test.YtogpdpjheknkjabMath3
namespace Go.Proofs.Ytogpdpjheknkjab
open Go.RowKit
set_option linter.unusedVariables false
attribute [local go_sem 5000] run_mx run_mn run_eqlR run_neqR
attribute [local go_sem] growUpon_value growUpon_skip growUpon_enter
set_option maxHeartbeats 1000000
theorem inset_any (x y u v p q : Int) (w : World) (h : inB x y u v p q = true) : Calls Try.prog 48 #[.agg #[.int .i64 (x), .int .i64 (y), .int .i64 (u), .int .i64 (v)], .int .i64 p, .int .i64 q] w fun e w' => e = .returned (.agg #[.int .i64 (x + mn p (u / 2)), .int .i64 (y + mn q (v / 2)), .int .i64 (mx (u - 2 * p) 0), .int .i64 (mx (v - 2 * q) 0)]) ∧ Below w.heap.size w w' := by
  obtain ⟨h1, h2, h3⟩ := inB_yes h
  obtain ⟨m1, m2, m3, m4, m5, m6, m7, m8⟩ := in_bds h
  obtain ⟨a1, a2, a3, a4, a5, a6, a7, a8⟩ := vr_iff.1 h1
  obtain ⟨b1, b2⟩ := rng_iff.1 h2
  obtain ⟨b3, b4⟩ := rng_iff.1 h3
  clear h h1 h2 h3
  go_enter Try.func48, Try.ntmps48
  go_wp2
  exact bodyPost_ret (v := .agg #[.int .i64 (x + mn p (u / 2)), .int .i64 (y + mn q (v / 2)), .int .i64 (mx (u - 2 * p) 0), .int .i64 (mx (v - 2 * q) 0)]) (by simp only [results, Try.results48]; go_simp) rfl ⟨rfl, (by repeat (first | with_reducible exact Below.refl _ _ | with_reducible assumption | with_reducible refine balloc ?_ | (with_reducible refine bset ?_ ?_; rotate_left; ((try dsimp only); omega)) | refine bkeep2 ?_ (by assumption) | with_reducible refine Below.drew ?_))⟩
theorem InsetRect_yes (x y u v p q : Int) (w : World) (h : inB x y u v p q = true) : Calls Try.prog 23 #[.agg #[.int .i64 (x), .int .i64 (y), .int .i64 (u), .int .i64 (v)], .int .i64 p, .int .i64 q] w fun e w' => e = .returned (.agg #[.int .i64 (x + mn p (u / 2)), .int .i64 (y + mn q (v / 2)), .int .i64 (mx (u - 2 * p) 0), .int .i64 (mx (v - 2 * q) 0)]) ∧ Below w.heap.size w w' := by
  obtain ⟨h1, h2, h3⟩ := inB_yes h
  go_enter Try.func23, Try.ntmps23
  go_wp2_with (first | (go_at_call 46; refine (validRect_any _ _ _ _ _).mono ?_; rintro e w1 ⟨rfl, hb⟩; obtain ⟨hc, hf⟩ := bcell hb; (first | (replace hB := bkeep2 hB hb) | (replace hB := bkeep2 (balloc hB) hb) | (replace hB := bkeep2 (balloc (balloc hB)) hb) | have hB := hb); obtain ⟨hC, hF, hZ, hN⟩ := bcell4 hB; (try (have hlt := Nat.lt_of_lt_of_le hlt hb.size; have hne := Nat.ne_of_lt hlt)); (have hs0 := hb.size); (try simp only [World.size_alloc] at hs0); (try (have hlt := Nat.lt_of_succ_le hs0; have hne := Nat.ne_of_lt hlt))) | (go_at_call 47; refine (within_any _ _ _ _).mono ?_; rintro e w' ⟨rfl, rfl⟩) | (go_at_call 48; refine (inset_any _ _ _ _ _ _ _ h).mono ?_; rintro e w1 ⟨rfl, hb⟩; obtain ⟨hc, hf⟩ := bcell hb; (first | (replace hB := bkeep2 hB hb) | (replace hB := bkeep2 (balloc hB) hb) | (replace hB := bkeep2 (balloc (balloc hB)) hb) | have hB := hb); obtain ⟨hC, hF, hZ, hN⟩ := bcell4 hB; (try (have hlt := Nat.lt_of_lt_of_le hlt hb.size; have hne := Nat.ne_of_lt hlt)); (have hs0 := hb.size); (try simp only [World.size_alloc] at hs0); (try (have hlt := Nat.lt_of_succ_le hs0; have hne := Nat.ne_of_lt hlt))))
  exact bodyPost_ret (v := .agg #[.int .i64 (x + mn p (u / 2)), .int .i64 (y + mn q (v / 2)), .int .i64 (mx (u - 2 * p) 0), .int .i64 (mx (v - 2 * q) 0)]) (by simp only [results, Try.results23]; go_simp) rfl ⟨rfl, (by repeat (first | with_reducible exact Below.refl _ _ | with_reducible assumption | with_reducible refine balloc ?_ | (with_reducible refine bset ?_ ?_; rotate_left; ((try dsimp only); omega)) | refine bkeep2 ?_ (by assumption) | with_reducible refine Below.drew ?_))⟩
theorem InsetRect_no (x y u v p q : Int) (w : World) (h : inB x y u v p q = false) : Calls Try.prog 23 #[.agg #[.int .i64 (x), .int .i64 (y), .int .i64 (u), .int .i64 (v)], .int .i64 p, .int .i64 q] w fun e w' => e = .returned (.agg #[.int .i64 (0), .int .i64 (0), .int .i64 (0), .int .i64 (0)]) ∧ Below w.heap.size w w' := by
  cases h1 : vr x y u v
  · go_enter Try.func23, Try.ntmps23
    go_wp2_with (first | (go_at_call 46; refine (validRect_any _ _ _ _ _).mono ?_; rintro e w1 ⟨rfl, hb⟩; obtain ⟨hc, hf⟩ := bcell hb; (first | (replace hB := bkeep2 hB hb) | (replace hB := bkeep2 (balloc hB) hb) | (replace hB := bkeep2 (balloc (balloc hB)) hb) | have hB := hb); obtain ⟨hC, hF, hZ, hN⟩ := bcell4 hB; (try (have hlt := Nat.lt_of_lt_of_le hlt hb.size; have hne := Nat.ne_of_lt hlt)); (have hs0 := hb.size); (try simp only [World.size_alloc] at hs0); (try (have hlt := Nat.lt_of_succ_le hs0; have hne := Nat.ne_of_lt hlt))) | (go_at_call 47; refine (within_any _ _ _ _).mono ?_; rintro e w' ⟨rfl, rfl⟩))
    exact bodyPost_ret (v := .agg #[.int .i64 (0), .int .i64 (0), .int .i64 (0), .int .i64 (0)]) (by simp only [results, Try.results23]; go_simp) rfl ⟨rfl, (by repeat (first | with_reducible exact Below.refl _ _ | with_reducible assumption | with_reducible refine balloc ?_ | (with_reducible refine bset ?_ ?_; rotate_left; ((try dsimp only); omega)) | refine bkeep2 ?_ (by assumption) | with_reducible refine Below.drew ?_))⟩
  cases h2 : rng p 0 10
  · go_enter Try.func23, Try.ntmps23
    go_wp2_with (first | (go_at_call 46; refine (validRect_any _ _ _ _ _).mono ?_; rintro e w1 ⟨rfl, hb⟩; obtain ⟨hc, hf⟩ := bcell hb; (first | (replace hB := bkeep2 hB hb) | (replace hB := bkeep2 (balloc hB) hb) | (replace hB := bkeep2 (balloc (balloc hB)) hb) | have hB := hb); obtain ⟨hC, hF, hZ, hN⟩ := bcell4 hB; (try (have hlt := Nat.lt_of_lt_of_le hlt hb.size; have hne := Nat.ne_of_lt hlt)); (have hs0 := hb.size); (try simp only [World.size_alloc] at hs0); (try (have hlt := Nat.lt_of_succ_le hs0; have hne := Nat.ne_of_lt hlt))) | (go_at_call 47; refine (within_any _ _ _ _).mono ?_; rintro e w' ⟨rfl, rfl⟩))
    exact bodyPost_ret (v := .agg #[.int .i64 (0), .int .i64 (0), .int .i64 (0), .int .i64 (0)]) (by simp only [results, Try.results23]; go_simp) rfl ⟨rfl, (by repeat (first | with_reducible exact Below.refl _ _ | with_reducible assumption | with_reducible refine balloc ?_ | (with_reducible refine bset ?_ ?_; rotate_left; ((try dsimp only); omega)) | refine bkeep2 ?_ (by assumption) | with_reducible refine Below.drew ?_))⟩
  have h3 := inB_no h h1 h2
  go_enter Try.func23, Try.ntmps23
  go_wp2_with (first | (go_at_call 46; refine (validRect_any _ _ _ _ _).mono ?_; rintro e w1 ⟨rfl, hb⟩; obtain ⟨hc, hf⟩ := bcell hb; (first | (replace hB := bkeep2 hB hb) | (replace hB := bkeep2 (balloc hB) hb) | (replace hB := bkeep2 (balloc (balloc hB)) hb) | have hB := hb); obtain ⟨hC, hF, hZ, hN⟩ := bcell4 hB; (try (have hlt := Nat.lt_of_lt_of_le hlt hb.size; have hne := Nat.ne_of_lt hlt)); (have hs0 := hb.size); (try simp only [World.size_alloc] at hs0); (try (have hlt := Nat.lt_of_succ_le hs0; have hne := Nat.ne_of_lt hlt))) | (go_at_call 47; refine (within_any _ _ _ _).mono ?_; rintro e w' ⟨rfl, rfl⟩))
  exact bodyPost_ret (v := .agg #[.int .i64 (0), .int .i64 (0), .int .i64 (0), .int .i64 (0)]) (by simp only [results, Try.results23]; go_simp) rfl ⟨rfl, (by repeat (first | with_reducible exact Below.refl _ _ | with_reducible assumption | with_reducible refine balloc ?_ | (with_reducible refine bset ?_ ?_; rotate_left; ((try dsimp only); omega)) | refine bkeep2 ?_ (by assumption) | with_reducible refine Below.drew ?_))⟩
end Go.Proofs.Ytogpdpjheknkjab
