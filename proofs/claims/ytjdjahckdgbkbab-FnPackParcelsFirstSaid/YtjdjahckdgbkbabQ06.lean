import Derived.Test.YtjdjahckdgbkbabQ05
import Derived.RegionTactic
import Derived.Laws.EntriesVeiled
section
namespace Go.Proofs.Ytjdjahckdgbkbab
open Go.RowKit
set_option linter.unusedVariables false
attribute [local go_sem 5000] run_mx run_mn run_eqlR run_neqR
attribute [local go_sem] growUpon_value growUpon_skip growUpon_enter
set_option maxHeartbeats 1000000
theorem celld {W : World} {a : Addr} {v : Value} (h : W.cell? a = some v) : W.drew.cell? a = some v := h
theorem gen_post {P : Program} {fn : Func} {R : Ending → World → Prop} {e : Exit} {a : Act} {W : World} (F : World → Prop) (hF : F W) (h : ∀ W0, F W0 → bodyPost P fn R e a W0) : bodyPost P fn R e a W := h W hF
set_option maxRecDepth 100000 in
theorem cutBottom_any (x y u v n : Int) (w : World) (h1 : vr x y u v = true) (h2 : 0 ≤ n) :
    Calls Try.prog 89 #[.agg #[.int .i64 (x), .int .i64 (y), .int .i64 (u), .int .i64 (v)], .int .i64 n] w fun e w' => e = .returned (.tuple #[.agg #[.int .i64 (x), .int .i64 (y + (v - mn n v)), .int .i64 (u), .int .i64 (mn n v)], .agg #[.int .i64 (x), .int .i64 (y), .int .i64 (u), .int .i64 (v - mn n v)]]) ∧ Below w.heap.size w w' := by
  obtain ⟨a1, a2, a3, a4, a5, a6, a7, a8⟩ := vr_iff.1 h1
  have g := mn_spec n v
  have g1 : 0 ≤ mn n v := by omega
  have g2 : mn n v ≤ v := by omega
  have C := Lib.hid (fun w => cutTop_any x y u v (v - mn n v) (v - mn n v) (mn n v) w h1 (by omega) (by have := mn_spec (v - mn n v) v; omega) (by omega))
  clear g
  go_enter Try.func89, Try.ntmps89
  go_wp2_with (go_at_call 88; refine (C.out _).mono ?_; rintro e w1 ⟨rfl, hb⟩; obtain ⟨hc, hf⟩ := bcell hb; (first | (replace hB := bkeep2 hB hb) | (replace hB := bkeep2 (balloc hB) hb) | (replace hB := bkeep2 (balloc (balloc hB)) hb) | have hB := hb); obtain ⟨hC, hF, hZ, hN⟩ := bcell4 hB; (try (have hlt := Nat.lt_of_lt_of_le hlt hb.size; have hne := Nat.ne_of_lt hlt)); (have hs0 := hb.size); (try simp only [World.size_alloc] at hs0); (try (have hlt := Nat.lt_of_succ_le hs0; have hne := Nat.ne_of_lt hlt)); (have kz0 : w.heap.size < w1.heap.size := by have := hB.size; simp at this; omega); (have kn0 : ¬ w.heap.size = w1.heap.size := by omega); (have kz1 : w.heap.size + 1 < w1.heap.size := by have := hB.size; simp at this; omega); (have kn1 : ¬ w.heap.size + 1 = w1.heap.size := by omega); (have kz2 : w.heap.size + 1 + 1 < w1.heap.size := by have := hB.size; simp at this; omega); (have kn2 : ¬ w.heap.size + 1 + 1 = w1.heap.size := by omega); (have kc0 : w1.cell? ⟨w.heap.size + 1, 0, none⟩ = some (.int .i64 (0)) := by go_simp); (have kf0 : w1.frozen? ⟨w.heap.size + 1, 0, none⟩ = false := by go_simp); (have kc1 : w1.cell? ⟨w.heap.size + 1, 1, none⟩ = some (.int .i64 (0)) := by go_simp); (have kf1 : w1.frozen? ⟨w.heap.size + 1, 1, none⟩ = false := by go_simp); (have kc2 : w1.cell? ⟨w.heap.size + 1, 2, none⟩ = some (.int .i64 (0)) := by go_simp); (have kf2 : w1.frozen? ⟨w.heap.size + 1, 2, none⟩ = false := by go_simp); (have kc3 : w1.cell? ⟨w.heap.size + 1, 3, none⟩ = some (.int .i64 (0)) := by go_simp); (have kf3 : w1.frozen? ⟨w.heap.size + 1, 3, none⟩ = false := by go_simp); (have kc0 : w1.cell? ⟨w.heap.size + 1 + 1, 0, none⟩ = some (.int .i64 (0)) := by go_simp); (have kf0 : w1.frozen? ⟨w.heap.size + 1 + 1, 0, none⟩ = false := by go_simp); (have kc1 : w1.cell? ⟨w.heap.size + 1 + 1, 1, none⟩ = some (.int .i64 (0)) := by go_simp); (have kf1 : w1.frozen? ⟨w.heap.size + 1 + 1, 1, none⟩ = false := by go_simp); (have kc2 : w1.cell? ⟨w.heap.size + 1 + 1, 2, none⟩ = some (.int .i64 (0)) := by go_simp); (have kf2 : w1.frozen? ⟨w.heap.size + 1 + 1, 2, none⟩ = false := by go_simp); (have kc3 : w1.cell? ⟨w.heap.size + 1 + 1, 3, none⟩ = some (.int .i64 (0)) := by go_simp); (have kf3 : w1.frozen? ⟨w.heap.size + 1 + 1, 3, none⟩ = false := by go_simp); clear hC hF hc hf hZ hN)
  refine wp_gen (fun W0 => Below w.heap.size w W0 ∧ W0.cell? ⟨w.heap.size + 1, 0, none⟩ = some (.int .i64 0) ∧ W0.frozen? ⟨w.heap.size + 1, 0, none⟩ = false ∧ W0.cell? ⟨w.heap.size + 1, 1, none⟩ = some (.int .i64 0) ∧ W0.frozen? ⟨w.heap.size + 1, 1, none⟩ = false ∧ W0.cell? ⟨w.heap.size + 1, 2, none⟩ = some (.int .i64 0) ∧ W0.frozen? ⟨w.heap.size + 1, 2, none⟩ = false ∧ W0.cell? ⟨w.heap.size + 1, 3, none⟩ = some (.int .i64 0) ∧ W0.frozen? ⟨w.heap.size + 1, 3, none⟩ = false ∧ W0.cell? ⟨w.heap.size + 1 + 1, 0, none⟩ = some (.int .i64 0) ∧ W0.frozen? ⟨w.heap.size + 1 + 1, 0, none⟩ = false ∧ W0.cell? ⟨w.heap.size + 1 + 1, 1, none⟩ = some (.int .i64 0) ∧ W0.frozen? ⟨w.heap.size + 1 + 1, 1, none⟩ = false ∧ W0.cell? ⟨w.heap.size + 1 + 1, 2, none⟩ = some (.int .i64 0) ∧ W0.frozen? ⟨w.heap.size + 1 + 1, 2, none⟩ = false ∧ W0.cell? ⟨w.heap.size + 1 + 1, 3, none⟩ = some (.int .i64 0) ∧ W0.frozen? ⟨w.heap.size + 1 + 1, 3, none⟩ = false ∧ W0.cell? ⟨w1.heap.size, 0, none⟩ = some (.int .i64 (x)) ∧ W0.cell? ⟨w1.heap.size, 1, none⟩ = some (.int .i64 (y)) ∧ W0.cell? ⟨w1.heap.size, 2, none⟩ = some (.int .i64 (u)) ∧ W0.cell? ⟨w1.heap.size, 3, none⟩ = some (.int .i64 (v - mn n v)) ∧ W0.cell? ⟨w1.heap.size + 1, 0, none⟩ = some (.int .i64 (x)) ∧ W0.cell? ⟨w1.heap.size + 1, 1, none⟩ = some (.int .i64 (y + (v - mn n v))) ∧ W0.cell? ⟨w1.heap.size + 1, 2, none⟩ = some (.int .i64 (u)) ∧ W0.cell? ⟨w1.heap.size + 1, 3, none⟩ = some (.int .i64 (mn n v))) ⟨(by repeat (first | with_reducible exact Below.refl _ _ | with_reducible assumption | with_reducible refine balloc ?_ | (with_reducible refine bset ?_ ?_; rotate_left; ((try dsimp only); omega)) | refine bkeep2 ?_ (by assumption) | with_reducible refine Below.drew ?_)), ?_⟩ (fun W0 hW0 => ?_)
  · go_simp
  obtain ⟨hBW, p0, pf0, p1, pf1, p2, pf2, p3, pf3, q0, qf0, q1, qf1, q2, qf2, q3, qf3, r0, r1, r2, r3, s0, s1, s2, s3⟩ := hW0
  generalize w1.heap.size = b6 at *

  go_region
  all_goals go_wp2
  all_goals
    have XA := box4 (w := W0) (b := w.heap.size + 1) (.int .i64 (x)) (.int .i64 (y + (v - mn n v))) (.int .i64 (u)) (.int .i64 (mn n v)) p0 p1 p2 p3
    have XB := box4 (b := w.heap.size + 1 + 1) (.int .i64 (x)) (.int .i64 (y)) (.int .i64 (u)) (.int .i64 (v - mn n v)) ((XA.2.2.2.2 (w.heap.size + 1 + 1) 0 (by omega)).trans q0) ((XA.2.2.2.2 (w.heap.size + 1 + 1) 1 (by omega)).trans q1) ((XA.2.2.2.2 (w.heap.size + 1 + 1) 2 (by omega)).trans q2) ((XA.2.2.2.2 (w.heap.size + 1 + 1) 3 (by omega)).trans q3)
    refine gen_post (fun wf => Below w.heap.size w wf ∧ wf.cell? ⟨w.heap.size + 1, 0, none⟩ = some (.int .i64 (x)) ∧ wf.cell? ⟨w.heap.size + 1, 1, none⟩ = some (.int .i64 (y + (v - mn n v))) ∧ wf.cell? ⟨w.heap.size + 1, 2, none⟩ = some (.int .i64 (u)) ∧ wf.cell? ⟨w.heap.size + 1, 3, none⟩ = some (.int .i64 (mn n v)) ∧ wf.cell? ⟨w.heap.size + 1 + 1, 0, none⟩ = some (.int .i64 (x)) ∧ wf.cell? ⟨w.heap.size + 1 + 1, 1, none⟩ = some (.int .i64 (y)) ∧ wf.cell? ⟨w.heap.size + 1 + 1, 2, none⟩ = some (.int .i64 (u)) ∧ wf.cell? ⟨w.heap.size + 1 + 1, 3, none⟩ = some (.int .i64 (v - mn n v))) ⟨(by with_reducible refine Below.drew ?_; exact (by repeat (first | with_reducible exact Below.refl _ _ | with_reducible assumption | with_reducible refine balloc ?_ | (with_reducible refine bset ?_ ?_; rotate_left; ((try dsimp only); omega)) | refine bkeep2 ?_ (by assumption) | with_reducible refine Below.drew ?_))), celld ((XB.2.2.2.2 (w.heap.size + 1) 0 (by omega)).trans XA.1), celld ((XB.2.2.2.2 (w.heap.size + 1) 1 (by omega)).trans XA.2.1), celld ((XB.2.2.2.2 (w.heap.size + 1) 2 (by omega)).trans XA.2.2.1), celld ((XB.2.2.2.2 (w.heap.size + 1) 3 (by omega)).trans XA.2.2.2.1), celld (XB.1), celld (XB.2.1), celld (XB.2.2.1), celld (XB.2.2.2.1)⟩ (fun wf hwf => ?_)
    clear XA XB
    obtain ⟨hBf, z0, z1, z2, z3, z4, z5, z6, z7⟩ := hwf
    exact bodyPost_ret (v := .tuple #[.agg #[.int .i64 (x), .int .i64 (y + (v - mn n v)), .int .i64 (u), .int .i64 (mn n v)], .agg #[.int .i64 (x), .int .i64 (y), .int .i64 (u), .int .i64 (v - mn n v)]]) (by simp only [results, Try.results89]; go_simp) rfl ⟨rfl, (by repeat (first | with_reducible exact Below.refl _ _ | with_reducible assumption | with_reducible refine balloc ?_ | (with_reducible refine bset ?_ ?_; rotate_left; ((try dsimp only); omega)) | refine bkeep2 ?_ (by assumption) | with_reducible refine Below.drew ?_))⟩
set_option maxRecDepth 100000 in
theorem cutRight_any (x y u v n : Int) (w : World) (h1 : vr x y u v = true) (h2 : 0 ≤ n) :
    Calls Try.prog 91 #[.agg #[.int .i64 (x), .int .i64 (y), .int .i64 (u), .int .i64 (v)], .int .i64 n] w fun e w' => e = .returned (.tuple #[.agg #[.int .i64 (x + (u - mn n u)), .int .i64 (y), .int .i64 (mn n u), .int .i64 (v)], .agg #[.int .i64 (x), .int .i64 (y), .int .i64 (u - mn n u), .int .i64 (v)]]) ∧ Below w.heap.size w w' := by
  obtain ⟨a1, a2, a3, a4, a5, a6, a7, a8⟩ := vr_iff.1 h1
  have g := mn_spec n u
  have g1 : 0 ≤ mn n u := by omega
  have g2 : mn n u ≤ u := by omega
  have C := Lib.hid (fun w => cutLeft_any x y u v (u - mn n u) (u - mn n u) (mn n u) w h1 (by omega) (by have := mn_spec (u - mn n u) u; omega) (by omega))
  clear g
  go_enter Try.func91, Try.ntmps91
  go_wp2_with (go_at_call 90; refine (C.out _).mono ?_; rintro e w1 ⟨rfl, hb⟩; obtain ⟨hc, hf⟩ := bcell hb; (first | (replace hB := bkeep2 hB hb) | (replace hB := bkeep2 (balloc hB) hb) | (replace hB := bkeep2 (balloc (balloc hB)) hb) | have hB := hb); obtain ⟨hC, hF, hZ, hN⟩ := bcell4 hB; (try (have hlt := Nat.lt_of_lt_of_le hlt hb.size; have hne := Nat.ne_of_lt hlt)); (have hs0 := hb.size); (try simp only [World.size_alloc] at hs0); (try (have hlt := Nat.lt_of_succ_le hs0; have hne := Nat.ne_of_lt hlt)); (have kz0 : w.heap.size < w1.heap.size := by have := hB.size; simp at this; omega); (have kn0 : ¬ w.heap.size = w1.heap.size := by omega); (have kz1 : w.heap.size + 1 < w1.heap.size := by have := hB.size; simp at this; omega); (have kn1 : ¬ w.heap.size + 1 = w1.heap.size := by omega); (have kz2 : w.heap.size + 1 + 1 < w1.heap.size := by have := hB.size; simp at this; omega); (have kn2 : ¬ w.heap.size + 1 + 1 = w1.heap.size := by omega); (have kc0 : w1.cell? ⟨w.heap.size + 1, 0, none⟩ = some (.int .i64 (0)) := by go_simp); (have kf0 : w1.frozen? ⟨w.heap.size + 1, 0, none⟩ = false := by go_simp); (have kc1 : w1.cell? ⟨w.heap.size + 1, 1, none⟩ = some (.int .i64 (0)) := by go_simp); (have kf1 : w1.frozen? ⟨w.heap.size + 1, 1, none⟩ = false := by go_simp); (have kc2 : w1.cell? ⟨w.heap.size + 1, 2, none⟩ = some (.int .i64 (0)) := by go_simp); (have kf2 : w1.frozen? ⟨w.heap.size + 1, 2, none⟩ = false := by go_simp); (have kc3 : w1.cell? ⟨w.heap.size + 1, 3, none⟩ = some (.int .i64 (0)) := by go_simp); (have kf3 : w1.frozen? ⟨w.heap.size + 1, 3, none⟩ = false := by go_simp); (have kc0 : w1.cell? ⟨w.heap.size + 1 + 1, 0, none⟩ = some (.int .i64 (0)) := by go_simp); (have kf0 : w1.frozen? ⟨w.heap.size + 1 + 1, 0, none⟩ = false := by go_simp); (have kc1 : w1.cell? ⟨w.heap.size + 1 + 1, 1, none⟩ = some (.int .i64 (0)) := by go_simp); (have kf1 : w1.frozen? ⟨w.heap.size + 1 + 1, 1, none⟩ = false := by go_simp); (have kc2 : w1.cell? ⟨w.heap.size + 1 + 1, 2, none⟩ = some (.int .i64 (0)) := by go_simp); (have kf2 : w1.frozen? ⟨w.heap.size + 1 + 1, 2, none⟩ = false := by go_simp); (have kc3 : w1.cell? ⟨w.heap.size + 1 + 1, 3, none⟩ = some (.int .i64 (0)) := by go_simp); (have kf3 : w1.frozen? ⟨w.heap.size + 1 + 1, 3, none⟩ = false := by go_simp); clear hC hF hc hf hZ hN)
  refine wp_gen (fun W0 => Below w.heap.size w W0 ∧ W0.cell? ⟨w.heap.size + 1, 0, none⟩ = some (.int .i64 0) ∧ W0.frozen? ⟨w.heap.size + 1, 0, none⟩ = false ∧ W0.cell? ⟨w.heap.size + 1, 1, none⟩ = some (.int .i64 0) ∧ W0.frozen? ⟨w.heap.size + 1, 1, none⟩ = false ∧ W0.cell? ⟨w.heap.size + 1, 2, none⟩ = some (.int .i64 0) ∧ W0.frozen? ⟨w.heap.size + 1, 2, none⟩ = false ∧ W0.cell? ⟨w.heap.size + 1, 3, none⟩ = some (.int .i64 0) ∧ W0.frozen? ⟨w.heap.size + 1, 3, none⟩ = false ∧ W0.cell? ⟨w.heap.size + 1 + 1, 0, none⟩ = some (.int .i64 0) ∧ W0.frozen? ⟨w.heap.size + 1 + 1, 0, none⟩ = false ∧ W0.cell? ⟨w.heap.size + 1 + 1, 1, none⟩ = some (.int .i64 0) ∧ W0.frozen? ⟨w.heap.size + 1 + 1, 1, none⟩ = false ∧ W0.cell? ⟨w.heap.size + 1 + 1, 2, none⟩ = some (.int .i64 0) ∧ W0.frozen? ⟨w.heap.size + 1 + 1, 2, none⟩ = false ∧ W0.cell? ⟨w.heap.size + 1 + 1, 3, none⟩ = some (.int .i64 0) ∧ W0.frozen? ⟨w.heap.size + 1 + 1, 3, none⟩ = false ∧ W0.cell? ⟨w1.heap.size, 0, none⟩ = some (.int .i64 (x)) ∧ W0.cell? ⟨w1.heap.size, 1, none⟩ = some (.int .i64 (y)) ∧ W0.cell? ⟨w1.heap.size, 2, none⟩ = some (.int .i64 (u - mn n u)) ∧ W0.cell? ⟨w1.heap.size, 3, none⟩ = some (.int .i64 (v)) ∧ W0.cell? ⟨w1.heap.size + 1, 0, none⟩ = some (.int .i64 (x + (u - mn n u))) ∧ W0.cell? ⟨w1.heap.size + 1, 1, none⟩ = some (.int .i64 (y)) ∧ W0.cell? ⟨w1.heap.size + 1, 2, none⟩ = some (.int .i64 (mn n u)) ∧ W0.cell? ⟨w1.heap.size + 1, 3, none⟩ = some (.int .i64 (v))) ⟨(by repeat (first | with_reducible exact Below.refl _ _ | with_reducible assumption | with_reducible refine balloc ?_ | (with_reducible refine bset ?_ ?_; rotate_left; ((try dsimp only); omega)) | refine bkeep2 ?_ (by assumption) | with_reducible refine Below.drew ?_)), ?_⟩ (fun W0 hW0 => ?_)
  · go_simp
  obtain ⟨hBW, p0, pf0, p1, pf1, p2, pf2, p3, pf3, q0, qf0, q1, qf1, q2, qf2, q3, qf3, r0, r1, r2, r3, s0, s1, s2, s3⟩ := hW0
  generalize w1.heap.size = b6 at *

  go_region
  all_goals go_wp2
  all_goals
    have XA := box4 (w := W0) (b := w.heap.size + 1) (.int .i64 (x + (u - mn n u))) (.int .i64 (y)) (.int .i64 (mn n u)) (.int .i64 (v)) p0 p1 p2 p3
    have XB := box4 (b := w.heap.size + 1 + 1) (.int .i64 (x)) (.int .i64 (y)) (.int .i64 (u - mn n u)) (.int .i64 (v)) ((XA.2.2.2.2 (w.heap.size + 1 + 1) 0 (by omega)).trans q0) ((XA.2.2.2.2 (w.heap.size + 1 + 1) 1 (by omega)).trans q1) ((XA.2.2.2.2 (w.heap.size + 1 + 1) 2 (by omega)).trans q2) ((XA.2.2.2.2 (w.heap.size + 1 + 1) 3 (by omega)).trans q3)
    refine gen_post (fun wf => Below w.heap.size w wf ∧ wf.cell? ⟨w.heap.size + 1, 0, none⟩ = some (.int .i64 (x + (u - mn n u))) ∧ wf.cell? ⟨w.heap.size + 1, 1, none⟩ = some (.int .i64 (y)) ∧ wf.cell? ⟨w.heap.size + 1, 2, none⟩ = some (.int .i64 (mn n u)) ∧ wf.cell? ⟨w.heap.size + 1, 3, none⟩ = some (.int .i64 (v)) ∧ wf.cell? ⟨w.heap.size + 1 + 1, 0, none⟩ = some (.int .i64 (x)) ∧ wf.cell? ⟨w.heap.size + 1 + 1, 1, none⟩ = some (.int .i64 (y)) ∧ wf.cell? ⟨w.heap.size + 1 + 1, 2, none⟩ = some (.int .i64 (u - mn n u)) ∧ wf.cell? ⟨w.heap.size + 1 + 1, 3, none⟩ = some (.int .i64 (v))) ⟨(by with_reducible refine Below.drew ?_; exact (by repeat (first | with_reducible exact Below.refl _ _ | with_reducible assumption | with_reducible refine balloc ?_ | (with_reducible refine bset ?_ ?_; rotate_left; ((try dsimp only); omega)) | refine bkeep2 ?_ (by assumption) | with_reducible refine Below.drew ?_))), celld ((XB.2.2.2.2 (w.heap.size + 1) 0 (by omega)).trans XA.1), celld ((XB.2.2.2.2 (w.heap.size + 1) 1 (by omega)).trans XA.2.1), celld ((XB.2.2.2.2 (w.heap.size + 1) 2 (by omega)).trans XA.2.2.1), celld ((XB.2.2.2.2 (w.heap.size + 1) 3 (by omega)).trans XA.2.2.2.1), celld (XB.1), celld (XB.2.1), celld (XB.2.2.1), celld (XB.2.2.2.1)⟩ (fun wf hwf => ?_)
    clear XA XB
    obtain ⟨hBf, z0, z1, z2, z3, z4, z5, z6, z7⟩ := hwf
    exact bodyPost_ret (v := .tuple #[.agg #[.int .i64 (x + (u - mn n u)), .int .i64 (y), .int .i64 (mn n u), .int .i64 (v)], .agg #[.int .i64 (x), .int .i64 (y), .int .i64 (u - mn n u), .int .i64 (v)]]) (by simp only [results, Try.results91]; go_simp) rfl ⟨rfl, (by repeat (first | with_reducible exact Below.refl _ _ | with_reducible assumption | with_reducible refine balloc ?_ | (with_reducible refine bset ?_ ?_; rotate_left; ((try dsimp only); omega)) | refine bkeep2 ?_ (by assumption) | with_reducible refine Below.drew ?_))⟩
end Go.Proofs.Ytjdjahckdgbkbab
end
section
namespace Go.Proofs.Ytjdjahckdgbkbab
open Go.RowKit
set_option linter.unusedVariables false
attribute [local go_sem 5000] run_mx run_mn run_eqlR run_neqR
attribute [local go_sem] growUpon_value growUpon_skip growUpon_enter
set_option maxHeartbeats 1000000
theorem cutters_any (w : World) : Calls Try.prog 86 #[] w fun e w' => e = .returned (.agg #[.func (.func 88) #[] #[], .func (.func 89) #[] #[], .func (.func 90) #[] #[], .func (.func 91) #[] #[]]) ∧ Below w.heap.size w w' := by
  go_enter Try.func86, Try.ntmps86
  go_wp2
  exact bodyPost_ret (v := .agg #[.func (.func 88) #[] #[], .func (.func 89) #[] #[], .func (.func 90) #[] #[], .func (.func 91) #[] #[]]) (by simp only [results, Try.results86]; go_simp) rfl ⟨rfl, (by repeat (first | with_reducible exact Below.refl _ _ | with_reducible assumption | with_reducible refine balloc ?_ | (with_reducible refine bset ?_ ?_; rotate_left; ((try dsimp only); omega)) | refine bkeep2 ?_ (by assumption) | with_reducible refine Below.drew ?_))⟩
set_option maxRecDepth 100000 in
theorem cut0_any (x y u v n : Int) (w : World) (h1 : vr x y u v = true) (h2 : 0 ≤ n) :
    Calls Try.prog 69 #[.agg #[.int .i64 (x), .int .i64 (y), .int .i64 (u), .int .i64 (v)], .int .i64 0, .int .i64 n] w fun e w' => e = .returned (.tuple #[.agg #[.int .i64 (x), .int .i64 (y), .int .i64 (u), .int .i64 (mn n v)], .agg #[.int .i64 (x), .int .i64 (y + mn n v), .int .i64 (u), .int .i64 (v - mn n v)]]) ∧ Below w.heap.size w w' := by
  have i0 : ∀ w, (Instr.index 93 (.agg #[.func (.func 88) #[] #[], .func (.func 89) #[] #[], .func (.func 90) #[] #[], .func (.func 91) #[] #[]]) (.int .i64 0)).run Try.prog w = .ok (.func (.func 88) #[] #[]) w := fun _ => by kernel_rfl
  go_enter Try.func69, Try.ntmps69
  go_wp2_with fail
  refine wp_region_grow 8 2 (· < 8) (by kernel_rfl) (by kernel_rfl) rfl ?_
  iterate 8 (refine wpG_step (fun K hK => ?_); apply Exists.intro; refine ⟨.inl ⟨rfl, fun w' hw' => ?_⟩, ?_⟩; (focus ((obtain ⟨hc, hf⟩ := bcell hw'.out); (have hcS := bcellS hw'.out); go_simp <;> first | rfl | (go_at_call 86; exact cutters_any _) | (go_at_call 88; exact cutTop_any x y u v n (mn n v) (v - mn n v) _ h1 h2 rfl rfl))); (go_simp; refine hK _ ?_; clear hK K))
  refine wpG_nil ?_
  refine wpK_tail (by kernel_rfl) (fun wt1 ht1 => ?_)
  obtain ⟨hct1, hft1⟩ := bcell ht1.out
  have kb0_0 : wt1.cell? ⟨w.heap.size + 1, 0, none⟩ = some (.int .i64 (0)) := by go_simp
  have kg0_0 : wt1.frozen? ⟨w.heap.size + 1, 0, none⟩ = false := by go_simp
  have kb0_1 : wt1.cell? ⟨w.heap.size + 1, 1, none⟩ = some (.int .i64 (0)) := by go_simp
  have kg0_1 : wt1.frozen? ⟨w.heap.size + 1, 1, none⟩ = false := by go_simp
  have kb0_2 : wt1.cell? ⟨w.heap.size + 1, 2, none⟩ = some (.int .i64 (0)) := by go_simp
  have kg0_2 : wt1.frozen? ⟨w.heap.size + 1, 2, none⟩ = false := by go_simp
  have kb0_3 : wt1.cell? ⟨w.heap.size + 1, 3, none⟩ = some (.int .i64 (0)) := by go_simp
  have kg0_3 : wt1.frozen? ⟨w.heap.size + 1, 3, none⟩ = false := by go_simp
  have kb1_0 : wt1.cell? ⟨w.heap.size + 1 + 1, 0, none⟩ = some (.int .i64 (0)) := by go_simp
  have kg1_0 : wt1.frozen? ⟨w.heap.size + 1 + 1, 0, none⟩ = false := by go_simp
  have kb1_1 : wt1.cell? ⟨w.heap.size + 1 + 1, 1, none⟩ = some (.int .i64 (0)) := by go_simp
  have kg1_1 : wt1.frozen? ⟨w.heap.size + 1 + 1, 1, none⟩ = false := by go_simp
  have kb1_2 : wt1.cell? ⟨w.heap.size + 1 + 1, 2, none⟩ = some (.int .i64 (0)) := by go_simp
  have kg1_2 : wt1.frozen? ⟨w.heap.size + 1 + 1, 2, none⟩ = false := by go_simp
  have kb1_3 : wt1.cell? ⟨w.heap.size + 1 + 1, 3, none⟩ = some (.int .i64 (0)) := by go_simp
  have kg1_3 : wt1.frozen? ⟨w.heap.size + 1 + 1, 3, none⟩ = false := by go_simp
  clear hct1 hft1
  refine wpAny_one (i := 8) (by kernel_rfl) rfl rfl ?_
  go_simp
  refine wpAny_one (i := 9) (by kernel_rfl) rfl rfl ?_
  go_simp
  refine wpAny_end (by kernel_rfl) ?_
  have XA := box4 (w := wt1) (b := w.heap.size + 1) (.int .i64 (x)) (.int .i64 (y)) (.int .i64 (u)) (.int .i64 (mn n v)) kb0_0 kb0_1 kb0_2 kb0_3
  have XB := box4 (b := w.heap.size + 1 + 1) (.int .i64 (x)) (.int .i64 (y + mn n v)) (.int .i64 (u)) (.int .i64 (v - mn n v)) ((XA.2.2.2.2 (w.heap.size + 1 + 1) 0 (by omega)).trans kb1_0) ((XA.2.2.2.2 (w.heap.size + 1 + 1) 1 (by omega)).trans kb1_1) ((XA.2.2.2.2 (w.heap.size + 1 + 1) 2 (by omega)).trans kb1_2) ((XA.2.2.2.2 (w.heap.size + 1 + 1) 3 (by omega)).trans kb1_3)
  refine NoPan.gen (fun wf => Below w.heap.size w wf ∧ wf.cell? ⟨w.heap.size + 1, 0, none⟩ = some (.int .i64 (x)) ∧ wf.cell? ⟨w.heap.size + 1, 1, none⟩ = some (.int .i64 (y)) ∧ wf.cell? ⟨w.heap.size + 1, 2, none⟩ = some (.int .i64 (u)) ∧ wf.cell? ⟨w.heap.size + 1, 3, none⟩ = some (.int .i64 (mn n v)) ∧ wf.cell? ⟨w.heap.size + 1 + 1, 0, none⟩ = some (.int .i64 (x)) ∧ wf.cell? ⟨w.heap.size + 1 + 1, 1, none⟩ = some (.int .i64 (y + mn n v)) ∧ wf.cell? ⟨w.heap.size + 1 + 1, 2, none⟩ = some (.int .i64 (u)) ∧ wf.cell? ⟨w.heap.size + 1 + 1, 3, none⟩ = some (.int .i64 (v - mn n v))) ⟨(by repeat (first | with_reducible exact Below.refl _ _ | with_reducible assumption | with_reducible refine balloc ?_ | (with_reducible refine bset ?_ ?_; rotate_left; ((try dsimp only); omega)) | refine bkeep2 ?_ (by assumption) | with_reducible refine Below.drew ?_)), (XB.2.2.2.2 (w.heap.size + 1) 0 (by omega)).trans XA.1, (XB.2.2.2.2 (w.heap.size + 1) 1 (by omega)).trans XA.2.1, (XB.2.2.2.2 (w.heap.size + 1) 2 (by omega)).trans XA.2.2.1, (XB.2.2.2.2 (w.heap.size + 1) 3 (by omega)).trans XA.2.2.2.1, XB.1, XB.2.1, XB.2.2.1, XB.2.2.2.1⟩ (fun wf hwf => ?_)
  clear XA XB kb0_0 kb0_1 kb0_2 kb0_3 kb1_0 kb1_1 kb1_2 kb1_3 kg0_0 kg0_1 kg0_2 kg0_3 kg1_0 kg1_1 kg1_2 kg1_3
  obtain ⟨hBf, z0, z1, z2, z3, z4, z5, z6, z7⟩ := hwf
  go_wp2
  exact bodyPost_ret (v := .tuple #[.agg #[.int .i64 (x), .int .i64 (y), .int .i64 (u), .int .i64 (mn n v)], .agg #[.int .i64 (x), .int .i64 (y + mn n v), .int .i64 (u), .int .i64 (v - mn n v)]]) (by simp only [results, Try.results69]; go_simp) rfl ⟨rfl, (by repeat (first | with_reducible exact Below.refl _ _ | with_reducible assumption | with_reducible refine balloc ?_ | (with_reducible refine bset ?_ ?_; rotate_left; ((try dsimp only); omega)) | refine bkeep2 ?_ (by assumption) | with_reducible refine Below.drew ?_))⟩
set_option maxRecDepth 100000 in
theorem cut1_any (x y u v n : Int) (w : World) (h1 : vr x y u v = true) (h2 : 0 ≤ n) :
    Calls Try.prog 69 #[.agg #[.int .i64 (x), .int .i64 (y), .int .i64 (u), .int .i64 (v)], .int .i64 1, .int .i64 n] w fun e w' => e = .returned (.tuple #[.agg #[.int .i64 (x), .int .i64 (y + (v - mn n v)), .int .i64 (u), .int .i64 (mn n v)], .agg #[.int .i64 (x), .int .i64 (y), .int .i64 (u), .int .i64 (v - mn n v)]]) ∧ Below w.heap.size w w' := by
  have i0 : ∀ w, (Instr.index 93 (.agg #[.func (.func 88) #[] #[], .func (.func 89) #[] #[], .func (.func 90) #[] #[], .func (.func 91) #[] #[]]) (.int .i64 1)).run Try.prog w = .ok (.func (.func 89) #[] #[]) w := fun _ => by kernel_rfl
  go_enter Try.func69, Try.ntmps69
  go_wp2_with fail
  refine wp_region_grow 8 2 (· < 8) (by kernel_rfl) (by kernel_rfl) rfl ?_
  iterate 8 (refine wpG_step (fun K hK => ?_); apply Exists.intro; refine ⟨.inl ⟨rfl, fun w' hw' => ?_⟩, ?_⟩; (focus ((obtain ⟨hc, hf⟩ := bcell hw'.out); (have hcS := bcellS hw'.out); go_simp <;> first | rfl | (go_at_call 86; exact cutters_any _) | (go_at_call 89; exact cutBottom_any x y u v n _ h1 h2))); (go_simp; refine hK _ ?_; clear hK K))
  refine wpG_nil ?_
  refine wpK_tail (by kernel_rfl) (fun wt1 ht1 => ?_)
  obtain ⟨hct1, hft1⟩ := bcell ht1.out
  have kb0_0 : wt1.cell? ⟨w.heap.size + 1, 0, none⟩ = some (.int .i64 (0)) := by go_simp
  have kg0_0 : wt1.frozen? ⟨w.heap.size + 1, 0, none⟩ = false := by go_simp
  have kb0_1 : wt1.cell? ⟨w.heap.size + 1, 1, none⟩ = some (.int .i64 (0)) := by go_simp
  have kg0_1 : wt1.frozen? ⟨w.heap.size + 1, 1, none⟩ = false := by go_simp
  have kb0_2 : wt1.cell? ⟨w.heap.size + 1, 2, none⟩ = some (.int .i64 (0)) := by go_simp
  have kg0_2 : wt1.frozen? ⟨w.heap.size + 1, 2, none⟩ = false := by go_simp
  have kb0_3 : wt1.cell? ⟨w.heap.size + 1, 3, none⟩ = some (.int .i64 (0)) := by go_simp
  have kg0_3 : wt1.frozen? ⟨w.heap.size + 1, 3, none⟩ = false := by go_simp
  have kb1_0 : wt1.cell? ⟨w.heap.size + 1 + 1, 0, none⟩ = some (.int .i64 (0)) := by go_simp
  have kg1_0 : wt1.frozen? ⟨w.heap.size + 1 + 1, 0, none⟩ = false := by go_simp
  have kb1_1 : wt1.cell? ⟨w.heap.size + 1 + 1, 1, none⟩ = some (.int .i64 (0)) := by go_simp
  have kg1_1 : wt1.frozen? ⟨w.heap.size + 1 + 1, 1, none⟩ = false := by go_simp
  have kb1_2 : wt1.cell? ⟨w.heap.size + 1 + 1, 2, none⟩ = some (.int .i64 (0)) := by go_simp
  have kg1_2 : wt1.frozen? ⟨w.heap.size + 1 + 1, 2, none⟩ = false := by go_simp
  have kb1_3 : wt1.cell? ⟨w.heap.size + 1 + 1, 3, none⟩ = some (.int .i64 (0)) := by go_simp
  have kg1_3 : wt1.frozen? ⟨w.heap.size + 1 + 1, 3, none⟩ = false := by go_simp
  clear hct1 hft1
  refine wpAny_one (i := 8) (by kernel_rfl) rfl rfl ?_
  go_simp
  refine wpAny_one (i := 9) (by kernel_rfl) rfl rfl ?_
  go_simp
  refine wpAny_end (by kernel_rfl) ?_
  have XA := box4 (w := wt1) (b := w.heap.size + 1) (.int .i64 (x)) (.int .i64 (y + (v - mn n v))) (.int .i64 (u)) (.int .i64 (mn n v)) kb0_0 kb0_1 kb0_2 kb0_3
  have XB := box4 (b := w.heap.size + 1 + 1) (.int .i64 (x)) (.int .i64 (y)) (.int .i64 (u)) (.int .i64 (v - mn n v)) ((XA.2.2.2.2 (w.heap.size + 1 + 1) 0 (by omega)).trans kb1_0) ((XA.2.2.2.2 (w.heap.size + 1 + 1) 1 (by omega)).trans kb1_1) ((XA.2.2.2.2 (w.heap.size + 1 + 1) 2 (by omega)).trans kb1_2) ((XA.2.2.2.2 (w.heap.size + 1 + 1) 3 (by omega)).trans kb1_3)
  refine NoPan.gen (fun wf => Below w.heap.size w wf ∧ wf.cell? ⟨w.heap.size + 1, 0, none⟩ = some (.int .i64 (x)) ∧ wf.cell? ⟨w.heap.size + 1, 1, none⟩ = some (.int .i64 (y + (v - mn n v))) ∧ wf.cell? ⟨w.heap.size + 1, 2, none⟩ = some (.int .i64 (u)) ∧ wf.cell? ⟨w.heap.size + 1, 3, none⟩ = some (.int .i64 (mn n v)) ∧ wf.cell? ⟨w.heap.size + 1 + 1, 0, none⟩ = some (.int .i64 (x)) ∧ wf.cell? ⟨w.heap.size + 1 + 1, 1, none⟩ = some (.int .i64 (y)) ∧ wf.cell? ⟨w.heap.size + 1 + 1, 2, none⟩ = some (.int .i64 (u)) ∧ wf.cell? ⟨w.heap.size + 1 + 1, 3, none⟩ = some (.int .i64 (v - mn n v))) ⟨(by repeat (first | with_reducible exact Below.refl _ _ | with_reducible assumption | with_reducible refine balloc ?_ | (with_reducible refine bset ?_ ?_; rotate_left; ((try dsimp only); omega)) | refine bkeep2 ?_ (by assumption) | with_reducible refine Below.drew ?_)), (XB.2.2.2.2 (w.heap.size + 1) 0 (by omega)).trans XA.1, (XB.2.2.2.2 (w.heap.size + 1) 1 (by omega)).trans XA.2.1, (XB.2.2.2.2 (w.heap.size + 1) 2 (by omega)).trans XA.2.2.1, (XB.2.2.2.2 (w.heap.size + 1) 3 (by omega)).trans XA.2.2.2.1, XB.1, XB.2.1, XB.2.2.1, XB.2.2.2.1⟩ (fun wf hwf => ?_)
  clear XA XB kb0_0 kb0_1 kb0_2 kb0_3 kb1_0 kb1_1 kb1_2 kb1_3 kg0_0 kg0_1 kg0_2 kg0_3 kg1_0 kg1_1 kg1_2 kg1_3
  obtain ⟨hBf, z0, z1, z2, z3, z4, z5, z6, z7⟩ := hwf
  go_wp2
  exact bodyPost_ret (v := .tuple #[.agg #[.int .i64 (x), .int .i64 (y + (v - mn n v)), .int .i64 (u), .int .i64 (mn n v)], .agg #[.int .i64 (x), .int .i64 (y), .int .i64 (u), .int .i64 (v - mn n v)]]) (by simp only [results, Try.results69]; go_simp) rfl ⟨rfl, (by repeat (first | with_reducible exact Below.refl _ _ | with_reducible assumption | with_reducible refine balloc ?_ | (with_reducible refine bset ?_ ?_; rotate_left; ((try dsimp only); omega)) | refine bkeep2 ?_ (by assumption) | with_reducible refine Below.drew ?_))⟩
set_option maxRecDepth 100000 in
theorem cut2_any (x y u v n : Int) (w : World) (h1 : vr x y u v = true) (h2 : 0 ≤ n) :
    Calls Try.prog 69 #[.agg #[.int .i64 (x), .int .i64 (y), .int .i64 (u), .int .i64 (v)], .int .i64 2, .int .i64 n] w fun e w' => e = .returned (.tuple #[.agg #[.int .i64 (x), .int .i64 (y), .int .i64 (mn n u), .int .i64 (v)], .agg #[.int .i64 (x + mn n u), .int .i64 (y), .int .i64 (u - mn n u), .int .i64 (v)]]) ∧ Below w.heap.size w w' := by
  have i0 : ∀ w, (Instr.index 93 (.agg #[.func (.func 88) #[] #[], .func (.func 89) #[] #[], .func (.func 90) #[] #[], .func (.func 91) #[] #[]]) (.int .i64 2)).run Try.prog w = .ok (.func (.func 90) #[] #[]) w := fun _ => by kernel_rfl
  go_enter Try.func69, Try.ntmps69
  go_wp2_with fail
  refine wp_region_grow 8 2 (· < 8) (by kernel_rfl) (by kernel_rfl) rfl ?_
  iterate 8 (refine wpG_step (fun K hK => ?_); apply Exists.intro; refine ⟨.inl ⟨rfl, fun w' hw' => ?_⟩, ?_⟩; (focus ((obtain ⟨hc, hf⟩ := bcell hw'.out); (have hcS := bcellS hw'.out); go_simp <;> first | rfl | (go_at_call 86; exact cutters_any _) | (go_at_call 90; exact cutLeft_any x y u v n (mn n u) (u - mn n u) _ h1 h2 rfl rfl))); (go_simp; refine hK _ ?_; clear hK K))
  refine wpG_nil ?_
  refine wpK_tail (by kernel_rfl) (fun wt1 ht1 => ?_)
  obtain ⟨hct1, hft1⟩ := bcell ht1.out
  have kb0_0 : wt1.cell? ⟨w.heap.size + 1, 0, none⟩ = some (.int .i64 (0)) := by go_simp
  have kg0_0 : wt1.frozen? ⟨w.heap.size + 1, 0, none⟩ = false := by go_simp
  have kb0_1 : wt1.cell? ⟨w.heap.size + 1, 1, none⟩ = some (.int .i64 (0)) := by go_simp
  have kg0_1 : wt1.frozen? ⟨w.heap.size + 1, 1, none⟩ = false := by go_simp
  have kb0_2 : wt1.cell? ⟨w.heap.size + 1, 2, none⟩ = some (.int .i64 (0)) := by go_simp
  have kg0_2 : wt1.frozen? ⟨w.heap.size + 1, 2, none⟩ = false := by go_simp
  have kb0_3 : wt1.cell? ⟨w.heap.size + 1, 3, none⟩ = some (.int .i64 (0)) := by go_simp
  have kg0_3 : wt1.frozen? ⟨w.heap.size + 1, 3, none⟩ = false := by go_simp
  have kb1_0 : wt1.cell? ⟨w.heap.size + 1 + 1, 0, none⟩ = some (.int .i64 (0)) := by go_simp
  have kg1_0 : wt1.frozen? ⟨w.heap.size + 1 + 1, 0, none⟩ = false := by go_simp
  have kb1_1 : wt1.cell? ⟨w.heap.size + 1 + 1, 1, none⟩ = some (.int .i64 (0)) := by go_simp
  have kg1_1 : wt1.frozen? ⟨w.heap.size + 1 + 1, 1, none⟩ = false := by go_simp
  have kb1_2 : wt1.cell? ⟨w.heap.size + 1 + 1, 2, none⟩ = some (.int .i64 (0)) := by go_simp
  have kg1_2 : wt1.frozen? ⟨w.heap.size + 1 + 1, 2, none⟩ = false := by go_simp
  have kb1_3 : wt1.cell? ⟨w.heap.size + 1 + 1, 3, none⟩ = some (.int .i64 (0)) := by go_simp
  have kg1_3 : wt1.frozen? ⟨w.heap.size + 1 + 1, 3, none⟩ = false := by go_simp
  clear hct1 hft1
  refine wpAny_one (i := 8) (by kernel_rfl) rfl rfl ?_
  go_simp
  refine wpAny_one (i := 9) (by kernel_rfl) rfl rfl ?_
  go_simp
  refine wpAny_end (by kernel_rfl) ?_
  have XA := box4 (w := wt1) (b := w.heap.size + 1) (.int .i64 (x)) (.int .i64 (y)) (.int .i64 (mn n u)) (.int .i64 (v)) kb0_0 kb0_1 kb0_2 kb0_3
  have XB := box4 (b := w.heap.size + 1 + 1) (.int .i64 (x + mn n u)) (.int .i64 (y)) (.int .i64 (u - mn n u)) (.int .i64 (v)) ((XA.2.2.2.2 (w.heap.size + 1 + 1) 0 (by omega)).trans kb1_0) ((XA.2.2.2.2 (w.heap.size + 1 + 1) 1 (by omega)).trans kb1_1) ((XA.2.2.2.2 (w.heap.size + 1 + 1) 2 (by omega)).trans kb1_2) ((XA.2.2.2.2 (w.heap.size + 1 + 1) 3 (by omega)).trans kb1_3)
  refine NoPan.gen (fun wf => Below w.heap.size w wf ∧ wf.cell? ⟨w.heap.size + 1, 0, none⟩ = some (.int .i64 (x)) ∧ wf.cell? ⟨w.heap.size + 1, 1, none⟩ = some (.int .i64 (y)) ∧ wf.cell? ⟨w.heap.size + 1, 2, none⟩ = some (.int .i64 (mn n u)) ∧ wf.cell? ⟨w.heap.size + 1, 3, none⟩ = some (.int .i64 (v)) ∧ wf.cell? ⟨w.heap.size + 1 + 1, 0, none⟩ = some (.int .i64 (x + mn n u)) ∧ wf.cell? ⟨w.heap.size + 1 + 1, 1, none⟩ = some (.int .i64 (y)) ∧ wf.cell? ⟨w.heap.size + 1 + 1, 2, none⟩ = some (.int .i64 (u - mn n u)) ∧ wf.cell? ⟨w.heap.size + 1 + 1, 3, none⟩ = some (.int .i64 (v))) ⟨(by repeat (first | with_reducible exact Below.refl _ _ | with_reducible assumption | with_reducible refine balloc ?_ | (with_reducible refine bset ?_ ?_; rotate_left; ((try dsimp only); omega)) | refine bkeep2 ?_ (by assumption) | with_reducible refine Below.drew ?_)), (XB.2.2.2.2 (w.heap.size + 1) 0 (by omega)).trans XA.1, (XB.2.2.2.2 (w.heap.size + 1) 1 (by omega)).trans XA.2.1, (XB.2.2.2.2 (w.heap.size + 1) 2 (by omega)).trans XA.2.2.1, (XB.2.2.2.2 (w.heap.size + 1) 3 (by omega)).trans XA.2.2.2.1, XB.1, XB.2.1, XB.2.2.1, XB.2.2.2.1⟩ (fun wf hwf => ?_)
  clear XA XB kb0_0 kb0_1 kb0_2 kb0_3 kb1_0 kb1_1 kb1_2 kb1_3 kg0_0 kg0_1 kg0_2 kg0_3 kg1_0 kg1_1 kg1_2 kg1_3
  obtain ⟨hBf, z0, z1, z2, z3, z4, z5, z6, z7⟩ := hwf
  go_wp2
  exact bodyPost_ret (v := .tuple #[.agg #[.int .i64 (x), .int .i64 (y), .int .i64 (mn n u), .int .i64 (v)], .agg #[.int .i64 (x + mn n u), .int .i64 (y), .int .i64 (u - mn n u), .int .i64 (v)]]) (by simp only [results, Try.results69]; go_simp) rfl ⟨rfl, (by repeat (first | with_reducible exact Below.refl _ _ | with_reducible assumption | with_reducible refine balloc ?_ | (with_reducible refine bset ?_ ?_; rotate_left; ((try dsimp only); omega)) | refine bkeep2 ?_ (by assumption) | with_reducible refine Below.drew ?_))⟩
set_option maxRecDepth 100000 in
theorem cut3_any (x y u v n : Int) (w : World) (h1 : vr x y u v = true) (h2 : 0 ≤ n) :
    Calls Try.prog 69 #[.agg #[.int .i64 (x), .int .i64 (y), .int .i64 (u), .int .i64 (v)], .int .i64 3, .int .i64 n] w fun e w' => e = .returned (.tuple #[.agg #[.int .i64 (x + (u - mn n u)), .int .i64 (y), .int .i64 (mn n u), .int .i64 (v)], .agg #[.int .i64 (x), .int .i64 (y), .int .i64 (u - mn n u), .int .i64 (v)]]) ∧ Below w.heap.size w w' := by
  have i0 : ∀ w, (Instr.index 93 (.agg #[.func (.func 88) #[] #[], .func (.func 89) #[] #[], .func (.func 90) #[] #[], .func (.func 91) #[] #[]]) (.int .i64 3)).run Try.prog w = .ok (.func (.func 91) #[] #[]) w := fun _ => by kernel_rfl
  go_enter Try.func69, Try.ntmps69
  go_wp2_with fail
  refine wp_region_grow 8 2 (· < 8) (by kernel_rfl) (by kernel_rfl) rfl ?_
  iterate 8 (refine wpG_step (fun K hK => ?_); apply Exists.intro; refine ⟨.inl ⟨rfl, fun w' hw' => ?_⟩, ?_⟩; (focus ((obtain ⟨hc, hf⟩ := bcell hw'.out); (have hcS := bcellS hw'.out); go_simp <;> first | rfl | (go_at_call 86; exact cutters_any _) | (go_at_call 91; exact cutRight_any x y u v n _ h1 h2))); (go_simp; refine hK _ ?_; clear hK K))
  refine wpG_nil ?_
  refine wpK_tail (by kernel_rfl) (fun wt1 ht1 => ?_)
  obtain ⟨hct1, hft1⟩ := bcell ht1.out
  have kb0_0 : wt1.cell? ⟨w.heap.size + 1, 0, none⟩ = some (.int .i64 (0)) := by go_simp
  have kg0_0 : wt1.frozen? ⟨w.heap.size + 1, 0, none⟩ = false := by go_simp
  have kb0_1 : wt1.cell? ⟨w.heap.size + 1, 1, none⟩ = some (.int .i64 (0)) := by go_simp
  have kg0_1 : wt1.frozen? ⟨w.heap.size + 1, 1, none⟩ = false := by go_simp
  have kb0_2 : wt1.cell? ⟨w.heap.size + 1, 2, none⟩ = some (.int .i64 (0)) := by go_simp
  have kg0_2 : wt1.frozen? ⟨w.heap.size + 1, 2, none⟩ = false := by go_simp
  have kb0_3 : wt1.cell? ⟨w.heap.size + 1, 3, none⟩ = some (.int .i64 (0)) := by go_simp
  have kg0_3 : wt1.frozen? ⟨w.heap.size + 1, 3, none⟩ = false := by go_simp
  have kb1_0 : wt1.cell? ⟨w.heap.size + 1 + 1, 0, none⟩ = some (.int .i64 (0)) := by go_simp
  have kg1_0 : wt1.frozen? ⟨w.heap.size + 1 + 1, 0, none⟩ = false := by go_simp
  have kb1_1 : wt1.cell? ⟨w.heap.size + 1 + 1, 1, none⟩ = some (.int .i64 (0)) := by go_simp
  have kg1_1 : wt1.frozen? ⟨w.heap.size + 1 + 1, 1, none⟩ = false := by go_simp
  have kb1_2 : wt1.cell? ⟨w.heap.size + 1 + 1, 2, none⟩ = some (.int .i64 (0)) := by go_simp
  have kg1_2 : wt1.frozen? ⟨w.heap.size + 1 + 1, 2, none⟩ = false := by go_simp
  have kb1_3 : wt1.cell? ⟨w.heap.size + 1 + 1, 3, none⟩ = some (.int .i64 (0)) := by go_simp
  have kg1_3 : wt1.frozen? ⟨w.heap.size + 1 + 1, 3, none⟩ = false := by go_simp
  clear hct1 hft1
  refine wpAny_one (i := 8) (by kernel_rfl) rfl rfl ?_
  go_simp
  refine wpAny_one (i := 9) (by kernel_rfl) rfl rfl ?_
  go_simp
  refine wpAny_end (by kernel_rfl) ?_
  have XA := box4 (w := wt1) (b := w.heap.size + 1) (.int .i64 (x + (u - mn n u))) (.int .i64 (y)) (.int .i64 (mn n u)) (.int .i64 (v)) kb0_0 kb0_1 kb0_2 kb0_3
  have XB := box4 (b := w.heap.size + 1 + 1) (.int .i64 (x)) (.int .i64 (y)) (.int .i64 (u - mn n u)) (.int .i64 (v)) ((XA.2.2.2.2 (w.heap.size + 1 + 1) 0 (by omega)).trans kb1_0) ((XA.2.2.2.2 (w.heap.size + 1 + 1) 1 (by omega)).trans kb1_1) ((XA.2.2.2.2 (w.heap.size + 1 + 1) 2 (by omega)).trans kb1_2) ((XA.2.2.2.2 (w.heap.size + 1 + 1) 3 (by omega)).trans kb1_3)
  refine NoPan.gen (fun wf => Below w.heap.size w wf ∧ wf.cell? ⟨w.heap.size + 1, 0, none⟩ = some (.int .i64 (x + (u - mn n u))) ∧ wf.cell? ⟨w.heap.size + 1, 1, none⟩ = some (.int .i64 (y)) ∧ wf.cell? ⟨w.heap.size + 1, 2, none⟩ = some (.int .i64 (mn n u)) ∧ wf.cell? ⟨w.heap.size + 1, 3, none⟩ = some (.int .i64 (v)) ∧ wf.cell? ⟨w.heap.size + 1 + 1, 0, none⟩ = some (.int .i64 (x)) ∧ wf.cell? ⟨w.heap.size + 1 + 1, 1, none⟩ = some (.int .i64 (y)) ∧ wf.cell? ⟨w.heap.size + 1 + 1, 2, none⟩ = some (.int .i64 (u - mn n u)) ∧ wf.cell? ⟨w.heap.size + 1 + 1, 3, none⟩ = some (.int .i64 (v))) ⟨(by repeat (first | with_reducible exact Below.refl _ _ | with_reducible assumption | with_reducible refine balloc ?_ | (with_reducible refine bset ?_ ?_; rotate_left; ((try dsimp only); omega)) | refine bkeep2 ?_ (by assumption) | with_reducible refine Below.drew ?_)), (XB.2.2.2.2 (w.heap.size + 1) 0 (by omega)).trans XA.1, (XB.2.2.2.2 (w.heap.size + 1) 1 (by omega)).trans XA.2.1, (XB.2.2.2.2 (w.heap.size + 1) 2 (by omega)).trans XA.2.2.1, (XB.2.2.2.2 (w.heap.size + 1) 3 (by omega)).trans XA.2.2.2.1, XB.1, XB.2.1, XB.2.2.1, XB.2.2.2.1⟩ (fun wf hwf => ?_)
  clear XA XB kb0_0 kb0_1 kb0_2 kb0_3 kb1_0 kb1_1 kb1_2 kb1_3 kg0_0 kg0_1 kg0_2 kg0_3 kg1_0 kg1_1 kg1_2 kg1_3
  obtain ⟨hBf, z0, z1, z2, z3, z4, z5, z6, z7⟩ := hwf
  go_wp2
  exact bodyPost_ret (v := .tuple #[.agg #[.int .i64 (x + (u - mn n u)), .int .i64 (y), .int .i64 (mn n u), .int .i64 (v)], .agg #[.int .i64 (x), .int .i64 (y), .int .i64 (u - mn n u), .int .i64 (v)]]) (by simp only [results, Try.results69]; go_simp) rfl ⟨rfl, (by repeat (first | with_reducible exact Below.refl _ _ | with_reducible assumption | with_reducible refine balloc ?_ | (with_reducible refine bset ?_ ?_; rotate_left; ((try dsimp only); omega)) | refine bkeep2 ?_ (by assumption) | with_reducible refine Below.drew ?_))⟩
end Go.Proofs.Ytjdjahckdgbkbab
end
section
namespace Go.Proofs.Ytjdjahckdgbkbab
open Go.RowKit
set_option linter.unusedVariables false
set_option maxHeartbeats 1000000
attribute [local go_sem 5000] run_mx run_mn
attribute [local go_sem] growUpon_value growUpon_skip growUpon_enter
theorem PV.drop {w : World} {L : List Pk} {b off k : Nat} (h : PS w b off L) (hb : b < w.heap.size) : PV w (some ⟨b, off + k * 9, none⟩) (L.drop k) :=
  ⟨fun _ => ⟨b, off + k * 9, rfl, hb, fun i p hp => by
    rw [List.getElem?_drop] at hp
    have := h (k + i) p hp
    rwa [show off + (k + i) * 9 = off + k * 9 + i * 9 from by rw [Nat.add_mul, Nat.add_assoc]] at this⟩⟩
theorem cut_v (z : Rc) (s n : Int) (w : World) (hz : z.ok = true) (hs : 0 ≤ s) (hs' : s ≤ 3) (hn : 0 ≤ n) :
    Calls Try.prog 69 #[.agg #[.int .i64 (z.x), .int .i64 (z.y), .int .i64 (z.u), .int .i64 (z.v)], .int .i64 s, .int .i64 n] w fun e w' => e = .returned (.tuple #[.agg #[.int .i64 ((cutP z s n).1.x), .int .i64 ((cutP z s n).1.y), .int .i64 ((cutP z s n).1.u), .int .i64 ((cutP z s n).1.v)], .agg #[.int .i64 ((cutP z s n).2.x), .int .i64 ((cutP z s n).2.y), .int .i64 ((cutP z s n).2.u), .int .i64 ((cutP z s n).2.v)]]) ∧ Below w.heap.size w w' := by
  have h : s = 0 ∨ s = 1 ∨ s = 2 ∨ s = 3 := by omega
  rcases h with rfl | rfl | rfl | rfl
  · exact cut0_any z.x z.y z.u z.v n w hz hn
  · exact cut1_any z.x z.y z.u z.v n w hz hn
  · exact cut2_any z.x z.y z.u z.v n w hz hn
  · exact cut3_any z.x z.y z.u z.v n w hz hn
theorem size_v (z : Rc) (d : Bool) (w : World) : Calls Try.prog 68 #[.agg #[.int .i64 (z.x), .int .i64 (z.y), .int .i64 (z.u), .int .i64 (z.v)], .bool d] w fun e w' => e = .returned (.int .i64 (z.size d)) ∧ Below w.heap.size w w' := by
  cases d
  all_goals
    go_enter Try.func68, Try.ntmps68
    go_wp2
    go_ret
    exact ⟨rfl, balloc (Below.refl _ _)⟩
theorem moreOf_no {L : List Pk} {p : Pk} {r : List Pk} {z : Rc} (e : L = p :: r) (h : p.ex = false) : moreOf L z = 0 := by subst e; simp [moreOf, h]
theorem moreOf_yes {L : List Pk} {p : Pk} {r : List Pk} {z : Rc} (e : L = p :: r) (h : p.ex = true) : moreOf L z = shareGo L p.down (z.size p.down) (z.size p.down) 0 := by subst e; simp [moreOf, h]
theorem cells4 {w : World} {b : Nat} {a0 a1 a2 a3 : Value} {T : TypeId} {fz : Nat × Nat} (h : w.heap[b]? = some (.cells #[a0, a1, a2, a3] T fz)) :
    w.cell? ⟨b, 0, none⟩ = some a0 ∧ w.cell? ⟨b, 1, none⟩ = some a1 ∧ w.cell? ⟨b, 2, none⟩ = some a2 ∧ w.cell? ⟨b, 3, none⟩ = some a3 := ⟨cellH h 0, cellH h 1, cellH h 2, cellH h 3⟩
set_option maxRecDepth 100000 in
/-- the closure of packParcels -/
theorem share1_v (b off c lf : Nat) (L : List Pk) (p : Pk) (r : List Pk) (z : Rc) (w : World) (e0 : L = p :: r) (h : PV w (some ⟨b, off, none⟩) L) (hL : vpsB L = true) (hz : z.ok = true)
    (hl : w.heap[lf]? = some (.cells #[.int .i64 z.x, .int .i64 z.y, .int .i64 z.u, .int .i64 z.v] 42 (0, 0))) :
    Calls Try.prog 66 #[.slice (some ⟨b, off, none⟩) L.length c, .pointer (some ⟨lf, 0, none⟩)] w fun e w' => e = .returned (.int .i64 (moreOf L z)) ∧ Below w.heap.size w w' := by
  obtain ⟨b', off', eA, hb, hc⟩ := first_cells h e0
  injection eA with eA
  injection eA with e1 e2
  subst e1 e2
  have hlf := (Array.getElem?_eq_some_iff.1 hl).1
  obtain ⟨sb1, sb2⟩ := Rc.size_bd hz p.down
  have HL := Lib.hid hl
  have HV := Lib.hid hL
  have hlp : 0 < L.length := by rw [e0]; simp
  have HE := Lib.hid e0
  have HH := Lib.hid h
  obtain ⟨l0, l1, l2, l3⟩ := cells4 hl
  have hne := Nat.ne_of_lt hlf
  obtain ⟨c0, c1, c2, c3, c4, c5, c6, c7, c8⟩ := hc
  clear hl h hL e0
  cases hx : p.ex
  · have HM := Lib.hid (moreOf_no (z := z) HE.out hx)
    rw [hx] at c5
    clear hx
    go_enter Try.func66, Try.ntmps66
    go_wp2
    go_ret
    exact ⟨ret_int HM.out.symm, balloc (Below.refl _ _)⟩
  · have HM := Lib.hid (moreOf_yes (z := z) HE.out hx)
    have HX := Lib.hid hx
    rw [hx] at c5
    clear hx
    go_enter Try.func66, Try.ntmps66
    go_wp2_with fail
    refine wp_region_grow 8 1 (· < 8) (by kernel_rfl) (by kernel_rfl) rfl ?_
    iterate 8 (refine wpG_step (fun K hK => ?_); apply Exists.intro; refine ⟨.inl ⟨rfl, fun w' hw' => ?_⟩, ?_⟩; (focus ((obtain ⟨hc, hf⟩ := bcell hw'.out); (have hcS := bcellS hw'.out); go_simp <;> first | rfl | (go_at_call 64; exact isDown_x p _ _) | (go_at_call 68; exact size_v z _ _) | (go_at_call 67; exact expandShare_v _ c L _ _ _ (HH.out.keep (bkeep2 (Below.drew (balloc (Below.refl _ _))) hw'.out)) HV.out p r HE.out rfl HX.out sb1 sb2))); (go_simp; refine hK _ ?_; clear hK K))
    refine wpG_nil ?_
    refine wpK_tail (by kernel_rfl) (fun w1 hg1 => ?_)
    refine wpAny_one (i := 8) (by kernel_rfl) rfl rfl ?_
    go_simp
    refine wpAny_end (by kernel_rfl) ?_
    refine NoPan.thn ?_
    have HB := Lib.hid (bkeep2 (Below.drew (balloc (Below.refl _ _))) hg1.out)
    clear hg1 c0 c1 c2 c3 c4 c5 c6 c7 c8 l0 l1 l2 l3
    go_wp2
    go_ret
    exact ⟨ret_int HM.out.symm, HB.out⟩
end Go.Proofs.Ytjdjahckdgbkbab
end
section
namespace Go.Proofs.Ytjdjahckdgbkbab
open Go.RowKit
set_option linter.unusedVariables false
set_option maxHeartbeats 1000000
def vals4 (r : Rc) : List Value := [.int .i64 r.x, .int .i64 r.y, .int .i64 r.u, .int .i64 r.v]
def In4 (cs : Array Value) (o : Nat) (r : Rc) : Prop := ∀ j, j < 4 → cs[o + j]? = (vals4 r)[j]?
def Cells4 (w : World) (b o : Nat) (r : Rc) : Prop := w.cell? ⟨b, o, none⟩ = some (.int .i64 r.x) ∧ w.cell? ⟨b, o + 1, none⟩ = some (.int .i64 r.y) ∧ w.cell? ⟨b, o + 2, none⟩ = some (.int .i64 r.u) ∧ w.cell? ⟨b, o + 3, none⟩ = some (.int .i64 r.v)
theorem In4.cells {w : World} {b : Nat} {cs : Array Value} {T : TypeId} {fz : Nat × Nat} {o : Nat} {r : Rc} (hh : w.heap[b]? = some (.cells cs T fz)) (h : In4 cs o r) : Cells4 w b o r := by
  have e : ∀ j, j < 4 → w.cell? ⟨b, o + j, none⟩ = (vals4 r)[j]? := fun j hj => (cellH hh _).trans (h j hj)
  exact ⟨e 0 (by omega), e 1 (by omega), e 2 (by omega), e 3 (by omega)⟩
theorem In4.write {cs : Array Value} {o : Nat} (r : Rc) (h : o + 4 ≤ cs.size) : In4 (writeAt cs o (vals4 r)) o r := fun j hj => writeAt_in _ _ _ _ h hj
theorem In4.keep {cs : Array Value} {o o' : Nat} {r q : Rc} (h : In4 cs o' q) (hd : o' + 4 ≤ o ∨ o + 4 ≤ o') : In4 (writeAt cs o (vals4 r)) o' q := fun j hj => by
  rcases hd with hd | hd
  · rw [writeAt_lo _ _ _ _ (by omega)]; exact h j hj
  · rw [writeAt_hi _ _ _ _ (by simp [vals4]; omega)]; exact h j hj
/-- what a block of rectangles of the call's own holds -/
def Blk4 (w : World) (g : Nat) (M : List Rc) : Prop := ∃ cs : Array Value, w.heap[g]? = some (.cells cs 42 (0, 0)) ∧ cs.size = M.length * 4 ∧ ∀ i r, M[i]? = some r → In4 cs (i * 4) r
theorem Blk4.keep {w w' : World} {g : Nat} {M : List Rc} (h : Blk4 w g M) (hb : Below w.heap.size w w') : Blk4 w' g M := by
  obtain ⟨cs, hh, hs, hc⟩ := h
  exact ⟨cs, (hb.block g (Array.getElem?_eq_some_iff.1 hh).1).trans hh, hs, hc⟩
theorem pput4 {w : World} {b : Nat} {cs : Array Value} {T : TypeId} {fz : Nat × Nat} (h : w.heap[b]? = some (.cells cs T fz)) (o : Nat) (r : Rc) :
    ((((w.setCell ⟨b, o, none⟩ (.int .i64 r.x)).setCell ⟨b, o + 1, none⟩ (.int .i64 r.y)).setCell ⟨b, o + 2, none⟩ (.int .i64 r.u)).setCell ⟨b, o + 3, none⟩ (.int .i64 r.v)).heap[b]? = some (.cells (writeAt cs o (vals4 r)) T fz) :=
  pput1 (pput1 (pput1 (pput1 h _) _) _) _
theorem pput4o {w : World} {b b' : Nat} (h : b' ≠ b) (o0 o1 o2 o3 : Nat) (x0 x1 x2 x3 : Value) :
    ((((w.setCell ⟨b, o0, none⟩ x0).setCell ⟨b, o1, none⟩ x1).setCell ⟨b, o2, none⟩ x2).setCell ⟨b, o3, none⟩ x3).heap[b']? = w.heap[b']? := by
  rw [Below.heap_setCell _ _ _ _ h, Below.heap_setCell _ _ _ _ h, Below.heap_setCell _ _ _ _ h, Below.heap_setCell _ _ _ _ h]
theorem pput4z {w : World} {b : Nat} {a0 a1 a2 a3 : Value} {T : TypeId} {fz : Nat × Nat} (h : w.heap[b]? = some (.cells #[a0, a1, a2, a3] T fz)) (x0 x1 x2 x3 : Value) :
    ((((w.setCell ⟨b, 0, none⟩ x0).setCell ⟨b, 1, none⟩ x1).setCell ⟨b, 2, none⟩ x2).setCell ⟨b, 3, none⟩ x3).heap[b]? = some (.cells #[x0, x1, x2, x3] T fz) := by
  rw [pput1 (pput1 (pput1 (pput1 h x0) x1) x2) x3]; rfl
theorem pput4b {B b : Nat} {a w : World} (h : Below B a w) (hb : B ≤ b) (o0 o1 o2 o3 : Nat) (x0 x1 x2 x3 : Value) : Below B a ((((w.setCell ⟨b, o0, none⟩ x0).setCell ⟨b, o1, none⟩ x1).setCell ⟨b, o2, none⟩ x2).setCell ⟨b, o3, none⟩ x3) :=
  (((h.setCell hb _).setCell hb _).setCell hb _).setCell hb _
theorem made4 : ∃ f : Nat → Array Value, (∀ n, (f n).size = n * 4) ∧ ∀ (n : Nat) (w : World), n ≤ 1048576 → (Instr.makeSlice 37 (.int .i64 (n : Int)) (.int .i64 (n : Int))).run Try.prog w = .ok (.slice (some ⟨w.heap.size, 0, none⟩) n n) (w.alloc (.cells (f n) 42)) := by
  have hinfo : (Try.prog.info? 42).map (fun i => (i.zero, i.size, i.bytes)) = some (some (.agg #[.int .i64 0, .int .i64 0, .int .i64 0, .int .i64 0]), 4, 32) := by kernel_rfl
  obtain ⟨i, hi, h1, h2, h3⟩ := info_parts hinfo
  refine ⟨fun n => madeCells (Value.agg #[.int .i64 0, .int .i64 0, .int .i64 0, .int .i64 0]).cells (n * 4), fun n => size_madeCells _ _, fun n w hn => ?_⟩
  have hr := run_make (P := Try.prog) w 37 42 i _ Try.underlying37 hi h1 .i64 .i64 n n (by omega) (Int.le_refl _) (by rw [h3]; omega) (by omega)
  rw [h2] at hr
  simpa using hr
theorem share1_n (b off c lf n : Nat) (L : List Pk) (p : Pk) (r : List Pk) (z : Rc) (w : World) (hn : n = L.length) (e0 : L = p :: r) (h : PV w (some ⟨b, off, none⟩) L) (hL : vpsB L = true) (hz : z.ok = true)
    (hl : w.heap[lf]? = some (.cells #[.int .i64 z.x, .int .i64 z.y, .int .i64 z.u, .int .i64 z.v] 42 (0, 0))) :
    Calls Try.prog 66 #[.slice (some ⟨b, off, none⟩) n c, .pointer (some ⟨lf, 0, none⟩)] w fun e w' => e = .returned (.int .i64 (moreOf L z)) ∧ Below w.heap.size w w' := by
  subst hn; exact share1_v b off c lf L p r z w e0 h hL hz hl
end Go.Proofs.Ytjdjahckdgbkbab
end
