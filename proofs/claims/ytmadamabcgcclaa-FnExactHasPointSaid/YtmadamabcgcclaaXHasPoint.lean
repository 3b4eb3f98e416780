/- FnExactHasPoint: for every argument the function of the program answers as the model's. No condition. -/
import Derived.Test.YtmadamabcgcclaaFr
import Derived.Test.YtmadamabcgcclaaE
import Derived.Test.YtmadamabcgcclaaC
namespace Go.Proofs.Ytmadamabcgcclaa.xHasPoint
open Go.ChangeShapes Go.WideShapes Go.ChangeAt Go.RowKit Go.Joins
set_option linter.unusedVariables false
attribute [local go_sem 5000] run_mx run_mn run_eqlR run_neqR
attribute [local go_sem] growUpon_value growUpon_skip growUpon_enter
set_option maxHeartbeats 1000000
theorem walk (x y u v p q : Int) (w : World) : Calls Try.prog 4 #[.agg #[.int .i64 (x), .int .i64 (y), .int .i64 (u), .int .i64 (v)], .int .i64 p, .int .i64 q] w fun e w' => e = .returned (.bool true) ∧ Below w.heap.size w w' := by
  cases h : vr x y u v
  · go_enter Try.func4, Try.ntmps4
    go_wp2_with (first | (go_at_call 10; refine (toRect_any _ _ _ _ _).mono ?_; rintro e w1 ⟨rfl, hb⟩; obtain ⟨hc, hf⟩ := bcell hb; (first | (replace hB := bkeep2 hB hb) | (replace hB := bkeep2 (balloc hB) hb) | have hB := hb); obtain ⟨hC, hF, hZ, hN⟩ := bcell4 hB; (try (have hlt := Nat.lt_of_lt_of_le hlt hb.size; have hne := Nat.ne_of_lt hlt)); (have hs0 := hb.size); (try simp only [World.size_alloc] at hs0); (try (have hlt := Nat.lt_of_succ_le hs0; have hne := Nat.ne_of_lt hlt)); (have kz0 : w.heap.size < w1.heap.size := by have := hB.size; simp at this; omega); (have kn0 : ¬ w.heap.size = w1.heap.size := by omega); (have kc0 : w1.cell? ⟨w.heap.size, 0, none⟩ = some (.int .i64 (x)) := by go_simp); (have kf0 : w1.frozen? ⟨w.heap.size, 0, none⟩ = false := by go_simp); (have kc1 : w1.cell? ⟨w.heap.size, 1, none⟩ = some (.int .i64 (y)) := by go_simp); (have kf1 : w1.frozen? ⟨w.heap.size, 1, none⟩ = false := by go_simp); (have kc2 : w1.cell? ⟨w.heap.size, 2, none⟩ = some (.int .i64 (u)) := by go_simp); (have kf2 : w1.frozen? ⟨w.heap.size, 2, none⟩ = false := by go_simp); (have kc3 : w1.cell? ⟨w.heap.size, 3, none⟩ = some (.int .i64 (v)) := by go_simp); (have kf3 : w1.frozen? ⟨w.heap.size, 3, none⟩ = false := by go_simp)) | (go_at_call 12; refine (sHasPoint_no _ _ _ _ _ _ _ h).mono ?_; rintro e w1 ⟨rfl, hb⟩; obtain ⟨hc, hf⟩ := bcell hb; (first | (replace hB := bkeep2 hB hb) | (replace hB := bkeep2 (balloc hB) hb) | have hB := hb); obtain ⟨hC, hF, hZ, hN⟩ := bcell4 hB; (try (have hlt := Nat.lt_of_lt_of_le hlt hb.size; have hne := Nat.ne_of_lt hlt)); (have hs0 := hb.size); (try simp only [World.size_alloc] at hs0); (try (have hlt := Nat.lt_of_succ_le hs0; have hne := Nat.ne_of_lt hlt)); (have kz0 : w.heap.size < w1.heap.size := by have := hB.size; simp at this; omega); (have kn0 : ¬ w.heap.size = w1.heap.size := by omega); (have kc0 : w1.cell? ⟨w.heap.size, 0, none⟩ = some (.int .i64 (x)) := by go_simp); (have kf0 : w1.frozen? ⟨w.heap.size, 0, none⟩ = false := by go_simp); (have kc1 : w1.cell? ⟨w.heap.size, 1, none⟩ = some (.int .i64 (y)) := by go_simp); (have kf1 : w1.frozen? ⟨w.heap.size, 1, none⟩ = false := by go_simp); (have kc2 : w1.cell? ⟨w.heap.size, 2, none⟩ = some (.int .i64 (u)) := by go_simp); (have kf2 : w1.frozen? ⟨w.heap.size, 2, none⟩ = false := by go_simp); (have kc3 : w1.cell? ⟨w.heap.size, 3, none⟩ = some (.int .i64 (v)) := by go_simp); (have kf3 : w1.frozen? ⟨w.heap.size, 3, none⟩ = false := by go_simp)) | (go_at_call 13; refine (HasPoint_no _ _ _ _ _ _ _ h).mono ?_; rintro e w1 ⟨rfl, hb⟩; obtain ⟨hc, hf⟩ := bcell hb; (first | (replace hB := bkeep2 hB hb) | (replace hB := bkeep2 (balloc hB) hb) | have hB := hb); obtain ⟨hC, hF, hZ, hN⟩ := bcell4 hB; (try (have hlt := Nat.lt_of_lt_of_le hlt hb.size; have hne := Nat.ne_of_lt hlt)); (have hs0 := hb.size); (try simp only [World.size_alloc] at hs0); (try (have hlt := Nat.lt_of_succ_le hs0; have hne := Nat.ne_of_lt hlt)); (have kz0 : w.heap.size < w1.heap.size := by have := hB.size; simp at this; omega); (have kn0 : ¬ w.heap.size = w1.heap.size := by omega); (have kc0 : w1.cell? ⟨w.heap.size, 0, none⟩ = some (.int .i64 (x)) := by go_simp); (have kf0 : w1.frozen? ⟨w.heap.size, 0, none⟩ = false := by go_simp); (have kc1 : w1.cell? ⟨w.heap.size, 1, none⟩ = some (.int .i64 (y)) := by go_simp); (have kf1 : w1.frozen? ⟨w.heap.size, 1, none⟩ = false := by go_simp); (have kc2 : w1.cell? ⟨w.heap.size, 2, none⟩ = some (.int .i64 (u)) := by go_simp); (have kf2 : w1.frozen? ⟨w.heap.size, 2, none⟩ = false := by go_simp); (have kc3 : w1.cell? ⟨w.heap.size, 3, none⟩ = some (.int .i64 (v)) := by go_simp); (have kf3 : w1.frozen? ⟨w.heap.size, 3, none⟩ = false := by go_simp)))
    all_goals go_ret
    all_goals exact ⟨ret_bool rfl, (by repeat (first | exact Below.refl _ _ | assumption | refine balloc ?_ | (refine bset ?_ ?_; rotate_left; ((try dsimp only); omega)) | refine bkeep2 ?_ (by assumption) | refine Below.drew ?_))⟩
  · go_enter Try.func4, Try.ntmps4
    go_wp2_with (first | (go_at_call 10; refine (toRect_any _ _ _ _ _).mono ?_; rintro e w1 ⟨rfl, hb⟩; obtain ⟨hc, hf⟩ := bcell hb; (first | (replace hB := bkeep2 hB hb) | (replace hB := bkeep2 (balloc hB) hb) | have hB := hb); obtain ⟨hC, hF, hZ, hN⟩ := bcell4 hB; (try (have hlt := Nat.lt_of_lt_of_le hlt hb.size; have hne := Nat.ne_of_lt hlt)); (have hs0 := hb.size); (try simp only [World.size_alloc] at hs0); (try (have hlt := Nat.lt_of_succ_le hs0; have hne := Nat.ne_of_lt hlt)); (have kz0 : w.heap.size < w1.heap.size := by have := hB.size; simp at this; omega); (have kn0 : ¬ w.heap.size = w1.heap.size := by omega); (have kc0 : w1.cell? ⟨w.heap.size, 0, none⟩ = some (.int .i64 (x)) := by go_simp); (have kf0 : w1.frozen? ⟨w.heap.size, 0, none⟩ = false := by go_simp); (have kc1 : w1.cell? ⟨w.heap.size, 1, none⟩ = some (.int .i64 (y)) := by go_simp); (have kf1 : w1.frozen? ⟨w.heap.size, 1, none⟩ = false := by go_simp); (have kc2 : w1.cell? ⟨w.heap.size, 2, none⟩ = some (.int .i64 (u)) := by go_simp); (have kf2 : w1.frozen? ⟨w.heap.size, 2, none⟩ = false := by go_simp); (have kc3 : w1.cell? ⟨w.heap.size, 3, none⟩ = some (.int .i64 (v)) := by go_simp); (have kf3 : w1.frozen? ⟨w.heap.size, 3, none⟩ = false := by go_simp)) | (go_at_call 12; refine (sHasPoint_yes _ _ _ _ _ _ _ h).mono ?_; rintro e w1 ⟨rfl, hb⟩; obtain ⟨hc, hf⟩ := bcell hb; (first | (replace hB := bkeep2 hB hb) | (replace hB := bkeep2 (balloc hB) hb) | have hB := hb); obtain ⟨hC, hF, hZ, hN⟩ := bcell4 hB; (try (have hlt := Nat.lt_of_lt_of_le hlt hb.size; have hne := Nat.ne_of_lt hlt)); (have hs0 := hb.size); (try simp only [World.size_alloc] at hs0); (try (have hlt := Nat.lt_of_succ_le hs0; have hne := Nat.ne_of_lt hlt)); (have kz0 : w.heap.size < w1.heap.size := by have := hB.size; simp at this; omega); (have kn0 : ¬ w.heap.size = w1.heap.size := by omega); (have kc0 : w1.cell? ⟨w.heap.size, 0, none⟩ = some (.int .i64 (x)) := by go_simp); (have kf0 : w1.frozen? ⟨w.heap.size, 0, none⟩ = false := by go_simp); (have kc1 : w1.cell? ⟨w.heap.size, 1, none⟩ = some (.int .i64 (y)) := by go_simp); (have kf1 : w1.frozen? ⟨w.heap.size, 1, none⟩ = false := by go_simp); (have kc2 : w1.cell? ⟨w.heap.size, 2, none⟩ = some (.int .i64 (u)) := by go_simp); (have kf2 : w1.frozen? ⟨w.heap.size, 2, none⟩ = false := by go_simp); (have kc3 : w1.cell? ⟨w.heap.size, 3, none⟩ = some (.int .i64 (v)) := by go_simp); (have kf3 : w1.frozen? ⟨w.heap.size, 3, none⟩ = false := by go_simp)) | (go_at_call 13; refine (HasPoint_yes _ _ _ _ _ _ _ h).mono ?_; rintro e w1 ⟨rfl, hb⟩; obtain ⟨hc, hf⟩ := bcell hb; (first | (replace hB := bkeep2 hB hb) | (replace hB := bkeep2 (balloc hB) hb) | have hB := hb); obtain ⟨hC, hF, hZ, hN⟩ := bcell4 hB; (try (have hlt := Nat.lt_of_lt_of_le hlt hb.size; have hne := Nat.ne_of_lt hlt)); (have hs0 := hb.size); (try simp only [World.size_alloc] at hs0); (try (have hlt := Nat.lt_of_succ_le hs0; have hne := Nat.ne_of_lt hlt)); (have kz0 : w.heap.size < w1.heap.size := by have := hB.size; simp at this; omega); (have kn0 : ¬ w.heap.size = w1.heap.size := by omega); (have kc0 : w1.cell? ⟨w.heap.size, 0, none⟩ = some (.int .i64 (x)) := by go_simp); (have kf0 : w1.frozen? ⟨w.heap.size, 0, none⟩ = false := by go_simp); (have kc1 : w1.cell? ⟨w.heap.size, 1, none⟩ = some (.int .i64 (y)) := by go_simp); (have kf1 : w1.frozen? ⟨w.heap.size, 1, none⟩ = false := by go_simp); (have kc2 : w1.cell? ⟨w.heap.size, 2, none⟩ = some (.int .i64 (u)) := by go_simp); (have kf2 : w1.frozen? ⟨w.heap.size, 2, none⟩ = false := by go_simp); (have kc3 : w1.cell? ⟨w.heap.size, 3, none⟩ = some (.int .i64 (v)) := by go_simp); (have kf3 : w1.frozen? ⟨w.heap.size, 3, none⟩ = false := by go_simp)))
    all_goals go_ret
    all_goals exact ⟨ret_bool rfl, (by repeat (first | exact Below.refl _ _ | assumption | refine balloc ?_ | (refine bset ?_ ?_; rotate_left; ((try dsimp only); omega)) | refine bkeep2 ?_ (by assumption) | refine Below.drew ?_))⟩

set_option maxRecDepth 100000 in
theorem lifted (os : Os) (started : os.Started) (H : Type) (enc : TypeId × Value → H) :
    ReturnsInHanded {} Try.checked os 4 .any (Rows.fnExactHasPointSpec.pre6 enc Try.prog Try.f4 Rows.fnExactHasPointRow.domain false) (Rows.fnExactHasPointSpec.post enc Try.prog Try.f4 false true false false) := by
  refine returnsInHanded_of_change (C := Try.checked) own started (by kernel_rfl) Try.func4
    (ChangeSpec.witness6 (enc := enc) (C := Try.checked) false ⟨#[], #[.agg #[.int .i64 0, .int .i64 0, .int .i64 0, .int .i64 0], .int .i64 0, .int .i64 0], []⟩ 8 (by kernel_rfl) (by kernel_rfl) (by kernel_rfl) (by kernel_rfl)) ?_
  intro W base args ds gs before hval0 hW hcnd _
  have hval : ∀ (j : Nat) t v, Try.f4.params[j]? = some t → args[j]? = some v → Value.okWide Try.prog W .any base t v := hval0
  have hW' := hW
  obtain ⟨p, q, hA0, hV, rfl, hfz, hnd⟩ := hW
  have hA : DataW.TrodAll enc Try.prog W 0 (fun _ => true) true Try.f4.params.toList args.toList ds p := hA0
  rw [Try.params4] at hA hval
  obtain ⟨v0, vs0, d0, ds0, p0, q0, hargs, rfl, rfl, h0, r0⟩ := trodAll_cons hA
  obtain ⟨v1, vs1, d1, ds1, p1, q1, rfl, rfl, rfl, h1, r1⟩ := trodAll_cons r0
  obtain ⟨v2, vs2, d2, ds2, p2, q2, rfl, rfl, rfl, h2, r2⟩ := trodAll_cons r1
  obtain ⟨rfl, rfl, rfl⟩ := trodAll_nil r2
  obtain rfl : args = #[v0, v1, v2] := by cases args; simp_all
  obtain ⟨rfl, rfl⟩ := trodVars_none hV
  have k0 := h0
  have lt0 : ∀ x ∈ p0, x.block < W.heap.size := by obtain ⟨m, hm⟩ := k0; exact DataW.trod_lt m _ _ _ hm
  obtain ⟨c00, c01, c02, c03, y00, y01, y02, y03, m0, rfl, _, _, hy00, hy01, hy02, hy03⟩ := open_agg4 Try.underlying23 (by kernel_rfl) cellsR (hval 0 23 v0 rfl rfl) h0
  obtain ⟨x00, e00, _, wx00⟩ := DataW.trod_int Try.underlying3 hy00
  obtain ⟨x01, e01, _, wx01⟩ := DataW.trod_int Try.underlying3 hy01
  obtain ⟨x02, e02, _, wx02⟩ := DataW.trod_int Try.underlying3 hy02
  obtain ⟨x03, e03, _, wx03⟩ := DataW.trod_int Try.underlying3 hy03
  simp only [List.cons.injEq, and_true] at e00 e01 e02 e03
  subst e00 e01 e02 e03
  have k1 := h1
  have lt1 : ∀ x ∈ p1, x.block < W.heap.size := by obtain ⟨m, hm⟩ := k1; exact DataW.trod_lt m _ _ _ hm
  obtain ⟨x1, rfl, _, _, wx1⟩ := open_int Try.underlying3 (hval 1 3 v1 rfl rfl) h1
  have k2 := h2
  have lt2 : ∀ x ∈ p2, x.block < W.heap.size := by obtain ⟨m, hm⟩ := k2; exact DataW.trod_lt m _ _ _ hm
  obtain ⟨x2, rfl, _, _, wx2⟩ := open_int Try.underlying3 (hval 2 3 v2 rfl rfl) h2
  clear hA0 hval0
  refine (walk x00 x01 x02 x03 x1 x2 W).mono fun e W' ⟨he, bel⟩ => ?_
  subst he
  exact ⟨_, rfl, _, _, _, [], _, [], hW', trodAll_mk1 (shut_bool Try.underlying4 _), (trodAll_cons_mk (Below.trod laidOut (by kernel_rfl) (of_decide_eq_true (by kernel_rfl)) k0 bel lt0) (trodAll_cons_mk (Below.trod laidOut (by kernel_rfl) (of_decide_eq_true (by kernel_rfl)) k1 bel lt1) (trodAll_cons_mk (Below.trod laidOut (by kernel_rfl) (of_decide_eq_true (by kernel_rfl)) k2 bel lt2) trodAll_mk0))), rfl, bel.frame _, fun h => by cases h⟩
theorem over : Rows.fnExactHasPointRow.holds Try.pinned (OpenSpec.ofChange Rows.fnExactHasPointSpec) :=
  OpenClaim.holds_of_wide 4 Try.f4 rfl rfl rfl rfl rfl rfl rfl ⟨rfl, rfl, rfl, rfl, rfl⟩ rfl rfl rfl rfl rfl (by kernel_rfl) Try.func4 (by kernel_rfl)
    (of_decide_eq_true (by kernel_rfl)) (by unfold Func.isWrapper; first | (rw [if_pos (by decide +kernel)]; kernel_rfl) | (rw [if_neg (by decide +kernel)]; exact ⟨rfl, rfl⟩))
    (fun os started H enc _ => lifted os started H enc)
theorem proved : Rows.FnExactHasPointSaid := over
end Go.Proofs.Ytmadamabcgcclaa.xHasPoint
