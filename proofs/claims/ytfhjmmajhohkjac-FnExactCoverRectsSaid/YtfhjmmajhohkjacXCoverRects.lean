/- FnExactCoverRects: for every argument the function of the program answers as the model's. No condition. -/
import Derived.Test.YtfhjmmajhohkjacQ02
namespace Go.Proofs.Ytfhjmmajhohkjac.xCoverRects
open Go.ChangeShapes Go.WideShapes Go.ChangeAt Go.RowKit Go.Joins
set_option linter.unusedVariables false
attribute [local go_sem 5000] run_mx run_mn run_eqlR run_neqR
attribute [local go_sem] growUpon_value growUpon_skip growUpon_enter
set_option maxHeartbeats 1000000
set_option maxRecDepth 100000 in
theorem walk (x y u v x' y' u' v' : Int) (w : World) : Calls Try.prog 7 #[.agg #[.int .i64 (x), .int .i64 (y), .int .i64 (u), .int .i64 (v)], .agg #[.int .i64 (x'), .int .i64 (y'), .int .i64 (u'), .int .i64 (v')]] w fun e w' => e = .returned (.bool true) ∧ Below w.heap.size w w' := by
  cases h : coverB x y u v x' y' u' v'
  · go_enter Try.func7, Try.ntmps7
    go_wp2_with fail
    refine wp_named (fun W1 e1 => ?_)
    replace e1 := Lib.hid e1
    refine wp_region_grow 8 3 (fun i => decide (i < 9) && i != 7) (by kernel_rfl) (by kernel_rfl) rfl ?_
    iterate 8 (refine wpG_step (fun K hK => ?_); apply Exists.intro; refine ⟨.inl ⟨rfl, fun w' hw' => ?_⟩, ?_⟩; (focus ((obtain ⟨hc, hf⟩ := bcell hw'.out); (have hcS := bcellS hw'.out); go_simp <;> first | rfl | (go_at_call 25; exact toRect_any _ _ _ _ _) | (go_at_call 24; exact sCoverRects_no _ _ _ _ _ _ _ _ _ h) | (go_at_call 26; exact CoverRects_no _ _ _ _ _ _ _ _ _ h))); (go_simp; refine hK _ ?_; clear hK K))
    refine wpG_nil ?_
    refine wpK_one (i := 8) (by kernel_rfl) rfl rfl (by kernel_rfl) (fun w1_0 h1_0 => ?_)
    go_simp
    refine ⟨Gr.alloc _ _, ?_⟩
    refine wpK_tail (by kernel_rfl) (fun w1_9 h1_9 => ?_)
    obtain ⟨hc1_9, hf1_9⟩ := bcell h1_9.out
    refine wpAny_one (i := 9) (by kernel_rfl) rfl rfl ?_
    go_simp
    refine wpAny_one (i := 10) (by kernel_rfl) rfl rfl ?_
    go_simp
    refine wpAny_end (by kernel_rfl) ?_
    have s1_a : W1.heap.size ≤ w1_9.heap.size := by rw [e1.out]; exact Nat.le_trans h1_0.out.size (Nat.le_trans (by simp) h1_9.out.size)
    have s1_b : W1.heap.size ≤ w1_0.heap.size := by rw [e1.out]; exact h1_0.out.size
    have s1_c : w1_0.heap.size < w1_9.heap.size := by have := h1_9.out.size; simp at this; omega
    have b1_a : Below W1.heap.size W1 w1_9 := by rw [e1.out]; exact bgrow (balloc (bgrow (Below.refl _ _).drew h1_0)) h1_9
    refine NoPan.gen (fun wf => Below W1.heap.size W1 wf ∧ W1.heap.size ≤ w1_0.heap.size ∧ w1_0.heap.size < wf.heap.size ∧ wf.cell? ⟨w1_0.heap.size, 0, none⟩ = some (.int .i64 (0)) ∧ wf.frozen? ⟨w1_0.heap.size, 0, none⟩ = false ∧ wf.cell? ⟨w1_0.heap.size, 1, none⟩ = some (.int .i64 (0)) ∧ wf.frozen? ⟨w1_0.heap.size, 1, none⟩ = false ∧ wf.cell? ⟨w1_0.heap.size, 2, none⟩ = some (.int .i64 (0)) ∧ wf.frozen? ⟨w1_0.heap.size, 2, none⟩ = false ∧ wf.cell? ⟨w1_0.heap.size, 3, none⟩ = some (.int .i64 (0)) ∧ wf.frozen? ⟨w1_0.heap.size, 3, none⟩ = false) ?_ (fun wf1 hwf1 => ?_)
    · refine ⟨by repeat (first | exact b1_a | (refine bset ?_ ?_; rotate_left; ((try dsimp only); omega))), ?_⟩
      refine ⟨s1_b, ?_⟩
      refine ⟨by simp; omega, ?_⟩
      go_simp
    generalize hgb1 : w1_0.heap.size = b1 at *
    have E := e1.out
    subst E
    obtain ⟨hB1, hl1, hu1, c1_0, f1_0, c1_1, f1_1, c1_2, f1_2, c1_3, f1_3⟩ := hwf1
    try simp only [World.size_alloc] at hl1
    clear hgb1 e1 hc1_9 hf1_9 s1_a s1_b s1_c b1_a h1_9 w1_9 h1_0 w1_0
    obtain ⟨hc1, hf1⟩ := bcell hB1
    have kw0 : wf1.cell? ⟨w.heap.size, 0, none⟩ = some (.int .i64 (x)) := by go_simp
    have kw1 : wf1.cell? ⟨w.heap.size, 1, none⟩ = some (.int .i64 (y)) := by go_simp
    have kw2 : wf1.cell? ⟨w.heap.size, 2, none⟩ = some (.int .i64 (u)) := by go_simp
    have kw3 : wf1.cell? ⟨w.heap.size, 3, none⟩ = some (.int .i64 (v)) := by go_simp
    have kw0 : wf1.cell? ⟨w.heap.size + 1, 0, none⟩ = some (.int .i64 (x')) := by go_simp
    have kw1 : wf1.cell? ⟨w.heap.size + 1, 1, none⟩ = some (.int .i64 (y')) := by go_simp
    have kw2 : wf1.cell? ⟨w.heap.size + 1, 2, none⟩ = some (.int .i64 (u')) := by go_simp
    have kw3 : wf1.cell? ⟨w.heap.size + 1, 3, none⟩ = some (.int .i64 (v')) := by go_simp
    go_wp2_with fail
    refine wp_named (fun W2 e2 => ?_)
    replace e2 := Lib.hid e2
    refine wp_region_grow 8 3 (fun i => decide (i < 9) && i != 7) (by kernel_rfl) (by kernel_rfl) rfl ?_
    iterate 8 (refine wpG_step (fun K hK => ?_); apply Exists.intro; refine ⟨.inl ⟨rfl, fun w' hw' => ?_⟩, ?_⟩; (focus ((obtain ⟨hc, hf⟩ := bcell hw'.out); (have hcS := bcellS hw'.out); go_simp <;> first | rfl | (go_at_call 25; exact toRect_any _ _ _ _ _) | (go_at_call 24; exact sCoverRects_no _ _ _ _ _ _ _ _ _ h) | (go_at_call 26; exact CoverRects_no _ _ _ _ _ _ _ _ _ h))); (go_simp; refine hK _ ?_; clear hK K))
    refine wpG_nil ?_
    refine wpK_one (i := 8) (by kernel_rfl) rfl rfl (by kernel_rfl) (fun w2_0 h2_0 => ?_)
    go_simp
    refine ⟨Gr.alloc _ _, ?_⟩
    refine wpK_tail (by kernel_rfl) (fun w2_9 h2_9 => ?_)
    obtain ⟨hc2_9, hf2_9⟩ := bcell h2_9.out
    refine wpAny_one (i := 9) (by kernel_rfl) rfl rfl ?_
    go_simp
    refine wpAny_one (i := 10) (by kernel_rfl) rfl rfl ?_
    go_simp
    refine wpAny_end (by kernel_rfl) ?_
    have s2_a : W2.heap.size ≤ w2_9.heap.size := by rw [e2.out]; exact Nat.le_trans h2_0.out.size (Nat.le_trans (by simp) h2_9.out.size)
    have s2_b : W2.heap.size ≤ w2_0.heap.size := by rw [e2.out]; exact h2_0.out.size
    have s2_c : w2_0.heap.size < w2_9.heap.size := by have := h2_9.out.size; simp at this; omega
    have b2_a : Below W2.heap.size W2 w2_9 := by rw [e2.out]; exact bgrow (balloc (bgrow (Below.refl _ _).drew h2_0)) h2_9
    refine NoPan.gen (fun wf => Below W2.heap.size W2 wf ∧ W2.heap.size ≤ w2_0.heap.size ∧ w2_0.heap.size < wf.heap.size ∧ wf.cell? ⟨w2_0.heap.size, 0, none⟩ = some (.int .i64 (0)) ∧ wf.frozen? ⟨w2_0.heap.size, 0, none⟩ = false ∧ wf.cell? ⟨w2_0.heap.size, 1, none⟩ = some (.int .i64 (0)) ∧ wf.frozen? ⟨w2_0.heap.size, 1, none⟩ = false ∧ wf.cell? ⟨w2_0.heap.size, 2, none⟩ = some (.int .i64 (0)) ∧ wf.frozen? ⟨w2_0.heap.size, 2, none⟩ = false ∧ wf.cell? ⟨w2_0.heap.size, 3, none⟩ = some (.int .i64 (0)) ∧ wf.frozen? ⟨w2_0.heap.size, 3, none⟩ = false) ?_ (fun wf2 hwf2 => ?_)
    · refine ⟨by repeat (first | exact b2_a | (refine bset ?_ ?_; rotate_left; ((try dsimp only); omega))), ?_⟩
      refine ⟨s2_b, ?_⟩
      refine ⟨by simp; omega, ?_⟩
      go_simp
    generalize hgb2 : w2_0.heap.size = b2 at *
    have E := e2.out
    subst E
    obtain ⟨hB2, hl2, hu2, c2_0, f2_0, c2_1, f2_1, c2_2, f2_2, c2_3, f2_3⟩ := hwf2
    try simp only [World.size_alloc] at hl2
    clear hgb2 e2 hc2_9 hf2_9 s2_a s2_b s2_c b2_a h2_9 w2_9 h2_0 w2_0
    obtain ⟨hc2, hf2⟩ := bcell hB2
    go_wp2_with (go_at_call 27; refine (eqRect_same _ _ _ _ _).mono ?_; rintro e w1 ⟨rfl, hb⟩; obtain ⟨hc, hf⟩ := bcell hb; (first | (replace hB := bkeep2 hB hb) | (replace hB := bkeep2 (balloc hB) hb) | (replace hB := bkeep2 (balloc (balloc hB)) hb) | have hB := hb); obtain ⟨hC, hF, hZ, hN⟩ := bcell4 hB; (try (have hlt := Nat.lt_of_lt_of_le hlt hb.size; have hne := Nat.ne_of_lt hlt)); (have hs0 := hb.size); (try simp only [World.size_alloc] at hs0); (try (have hlt := Nat.lt_of_succ_le hs0; have hne := Nat.ne_of_lt hlt)))
    all_goals go_ret
    all_goals exact ⟨ret_bool rfl, (by repeat (first | with_reducible exact Below.refl _ _ | with_reducible assumption | with_reducible refine balloc ?_ | (with_reducible refine bset ?_ ?_; rotate_left; ((try dsimp only); omega)) | refine bkeep2 ?_ (by assumption) | with_reducible refine Below.drew ?_))⟩
  · go_enter Try.func7, Try.ntmps7
    go_wp2_with fail
    refine wp_named (fun W3 e3 => ?_)
    replace e3 := Lib.hid e3
    refine wp_region_grow 8 3 (fun i => decide (i < 9) && i != 7) (by kernel_rfl) (by kernel_rfl) rfl ?_
    iterate 8 (refine wpG_step (fun K hK => ?_); apply Exists.intro; refine ⟨.inl ⟨rfl, fun w' hw' => ?_⟩, ?_⟩; (focus ((obtain ⟨hc, hf⟩ := bcell hw'.out); (have hcS := bcellS hw'.out); go_simp <;> first | rfl | (go_at_call 25; exact toRect_any _ _ _ _ _) | (go_at_call 24; exact sCoverRects_yes _ _ _ _ _ _ _ _ _ h) | (go_at_call 26; exact CoverRects_yes _ _ _ _ _ _ _ _ _ h))); (go_simp; refine hK _ ?_; clear hK K))
    refine wpG_nil ?_
    refine wpK_one (i := 8) (by kernel_rfl) rfl rfl (by kernel_rfl) (fun w3_0 h3_0 => ?_)
    go_simp
    refine ⟨Gr.alloc _ _, ?_⟩
    refine wpK_tail (by kernel_rfl) (fun w3_9 h3_9 => ?_)
    obtain ⟨hc3_9, hf3_9⟩ := bcell h3_9.out
    refine wpAny_one (i := 9) (by kernel_rfl) rfl rfl ?_
    go_simp
    refine wpAny_one (i := 10) (by kernel_rfl) rfl rfl ?_
    go_simp
    refine wpAny_end (by kernel_rfl) ?_
    have s3_a : W3.heap.size ≤ w3_9.heap.size := by rw [e3.out]; exact Nat.le_trans h3_0.out.size (Nat.le_trans (by simp) h3_9.out.size)
    have s3_b : W3.heap.size ≤ w3_0.heap.size := by rw [e3.out]; exact h3_0.out.size
    have s3_c : w3_0.heap.size < w3_9.heap.size := by have := h3_9.out.size; simp at this; omega
    have b3_a : Below W3.heap.size W3 w3_9 := by rw [e3.out]; exact bgrow (balloc (bgrow (Below.refl _ _).drew h3_0)) h3_9
    refine NoPan.gen (fun wf => Below W3.heap.size W3 wf ∧ W3.heap.size ≤ w3_0.heap.size ∧ w3_0.heap.size < wf.heap.size ∧ wf.cell? ⟨w3_0.heap.size, 0, none⟩ = some (.int .i64 (mn x x')) ∧ wf.frozen? ⟨w3_0.heap.size, 0, none⟩ = false ∧ wf.cell? ⟨w3_0.heap.size, 1, none⟩ = some (.int .i64 (mn y y')) ∧ wf.frozen? ⟨w3_0.heap.size, 1, none⟩ = false ∧ wf.cell? ⟨w3_0.heap.size, 2, none⟩ = some (.int .i64 (mx (x + u) (x' + u') - mn x x')) ∧ wf.frozen? ⟨w3_0.heap.size, 2, none⟩ = false ∧ wf.cell? ⟨w3_0.heap.size, 3, none⟩ = some (.int .i64 (mx (y + v) (y' + v') - mn y y')) ∧ wf.frozen? ⟨w3_0.heap.size, 3, none⟩ = false) ?_ (fun wf3 hwf3 => ?_)
    · refine ⟨by repeat (first | exact b3_a | (refine bset ?_ ?_; rotate_left; ((try dsimp only); omega))), ?_⟩
      refine ⟨s3_b, ?_⟩
      refine ⟨by simp; omega, ?_⟩
      go_simp
    generalize hgb3 : w3_0.heap.size = b3 at *
    have E := e3.out
    subst E
    obtain ⟨hB3, hl3, hu3, c3_0, f3_0, c3_1, f3_1, c3_2, f3_2, c3_3, f3_3⟩ := hwf3
    try simp only [World.size_alloc] at hl3
    clear hgb3 e3 hc3_9 hf3_9 s3_a s3_b s3_c b3_a h3_9 w3_9 h3_0 w3_0
    obtain ⟨hc3, hf3⟩ := bcell hB3
    have kw0 : wf3.cell? ⟨w.heap.size, 0, none⟩ = some (.int .i64 (x)) := by go_simp
    have kw1 : wf3.cell? ⟨w.heap.size, 1, none⟩ = some (.int .i64 (y)) := by go_simp
    have kw2 : wf3.cell? ⟨w.heap.size, 2, none⟩ = some (.int .i64 (u)) := by go_simp
    have kw3 : wf3.cell? ⟨w.heap.size, 3, none⟩ = some (.int .i64 (v)) := by go_simp
    have kw0 : wf3.cell? ⟨w.heap.size + 1, 0, none⟩ = some (.int .i64 (x')) := by go_simp
    have kw1 : wf3.cell? ⟨w.heap.size + 1, 1, none⟩ = some (.int .i64 (y')) := by go_simp
    have kw2 : wf3.cell? ⟨w.heap.size + 1, 2, none⟩ = some (.int .i64 (u')) := by go_simp
    have kw3 : wf3.cell? ⟨w.heap.size + 1, 3, none⟩ = some (.int .i64 (v')) := by go_simp
    go_wp2_with fail
    refine wp_named (fun W4 e4 => ?_)
    replace e4 := Lib.hid e4
    refine wp_region_grow 8 3 (fun i => decide (i < 9) && i != 7) (by kernel_rfl) (by kernel_rfl) rfl ?_
    iterate 8 (refine wpG_step (fun K hK => ?_); apply Exists.intro; refine ⟨.inl ⟨rfl, fun w' hw' => ?_⟩, ?_⟩; (focus ((obtain ⟨hc, hf⟩ := bcell hw'.out); (have hcS := bcellS hw'.out); go_simp <;> first | rfl | (go_at_call 25; exact toRect_any _ _ _ _ _) | (go_at_call 24; exact sCoverRects_yes _ _ _ _ _ _ _ _ _ h) | (go_at_call 26; exact CoverRects_yes _ _ _ _ _ _ _ _ _ h))); (go_simp; refine hK _ ?_; clear hK K))
    refine wpG_nil ?_
    refine wpK_one (i := 8) (by kernel_rfl) rfl rfl (by kernel_rfl) (fun w4_0 h4_0 => ?_)
    go_simp
    refine ⟨Gr.alloc _ _, ?_⟩
    refine wpK_tail (by kernel_rfl) (fun w4_9 h4_9 => ?_)
    obtain ⟨hc4_9, hf4_9⟩ := bcell h4_9.out
    refine wpAny_one (i := 9) (by kernel_rfl) rfl rfl ?_
    go_simp
    refine wpAny_one (i := 10) (by kernel_rfl) rfl rfl ?_
    go_simp
    refine wpAny_end (by kernel_rfl) ?_
    have s4_a : W4.heap.size ≤ w4_9.heap.size := by rw [e4.out]; exact Nat.le_trans h4_0.out.size (Nat.le_trans (by simp) h4_9.out.size)
    have s4_b : W4.heap.size ≤ w4_0.heap.size := by rw [e4.out]; exact h4_0.out.size
    have s4_c : w4_0.heap.size < w4_9.heap.size := by have := h4_9.out.size; simp at this; omega
    have b4_a : Below W4.heap.size W4 w4_9 := by rw [e4.out]; exact bgrow (balloc (bgrow (Below.refl _ _).drew h4_0)) h4_9
    refine NoPan.gen (fun wf => Below W4.heap.size W4 wf ∧ W4.heap.size ≤ w4_0.heap.size ∧ w4_0.heap.size < wf.heap.size ∧ wf.cell? ⟨w4_0.heap.size, 0, none⟩ = some (.int .i64 (mn x x')) ∧ wf.frozen? ⟨w4_0.heap.size, 0, none⟩ = false ∧ wf.cell? ⟨w4_0.heap.size, 1, none⟩ = some (.int .i64 (mn y y')) ∧ wf.frozen? ⟨w4_0.heap.size, 1, none⟩ = false ∧ wf.cell? ⟨w4_0.heap.size, 2, none⟩ = some (.int .i64 (mx (x + u) (x' + u') - mn x x')) ∧ wf.frozen? ⟨w4_0.heap.size, 2, none⟩ = false ∧ wf.cell? ⟨w4_0.heap.size, 3, none⟩ = some (.int .i64 (mx (y + v) (y' + v') - mn y y')) ∧ wf.frozen? ⟨w4_0.heap.size, 3, none⟩ = false) ?_ (fun wf4 hwf4 => ?_)
    · refine ⟨by repeat (first | exact b4_a | (refine bset ?_ ?_; rotate_left; ((try dsimp only); omega))), ?_⟩
      refine ⟨s4_b, ?_⟩
      refine ⟨by simp; omega, ?_⟩
      go_simp
    generalize hgb4 : w4_0.heap.size = b4 at *
    have E := e4.out
    subst E
    obtain ⟨hB4, hl4, hu4, c4_0, f4_0, c4_1, f4_1, c4_2, f4_2, c4_3, f4_3⟩ := hwf4
    try simp only [World.size_alloc] at hl4
    clear hgb4 e4 hc4_9 hf4_9 s4_a s4_b s4_c b4_a h4_9 w4_9 h4_0 w4_0
    obtain ⟨hc4, hf4⟩ := bcell hB4
    go_wp2_with (go_at_call 27; refine (eqRect_same _ _ _ _ _).mono ?_; rintro e w1 ⟨rfl, hb⟩; obtain ⟨hc, hf⟩ := bcell hb; (first | (replace hB := bkeep2 hB hb) | (replace hB := bkeep2 (balloc hB) hb) | (replace hB := bkeep2 (balloc (balloc hB)) hb) | have hB := hb); obtain ⟨hC, hF, hZ, hN⟩ := bcell4 hB; (try (have hlt := Nat.lt_of_lt_of_le hlt hb.size; have hne := Nat.ne_of_lt hlt)); (have hs0 := hb.size); (try simp only [World.size_alloc] at hs0); (try (have hlt := Nat.lt_of_succ_le hs0; have hne := Nat.ne_of_lt hlt)))
    all_goals go_ret
    all_goals exact ⟨ret_bool rfl, (by repeat (first | with_reducible exact Below.refl _ _ | with_reducible assumption | with_reducible refine balloc ?_ | (with_reducible refine bset ?_ ?_; rotate_left; ((try dsimp only); omega)) | refine bkeep2 ?_ (by assumption) | with_reducible refine Below.drew ?_))⟩

set_option maxRecDepth 100000 in
theorem lifted (os : Os) (started : os.Started) (H : Type) (enc : TypeId × Value → H) :
    ReturnsInHanded {} Try.checked os 7 .any (Rows.fnExactCoverRectsSpec.pre6 enc Try.prog Try.f7 Rows.fnExactCoverRectsRow.domain false) (Rows.fnExactCoverRectsSpec.post enc Try.prog Try.f7 false true false false) := by
  refine returnsInHanded_of_change (C := Try.checked) own started (by kernel_rfl) Try.func7
    (ChangeSpec.witness6 (enc := enc) (C := Try.checked) false ⟨#[], #[.agg #[.int .i64 0, .int .i64 0, .int .i64 0, .int .i64 0], .agg #[.int .i64 0, .int .i64 0, .int .i64 0, .int .i64 0]], []⟩ 8 (by kernel_rfl) (by kernel_rfl) (by kernel_rfl) (by kernel_rfl)) ?_
  intro W base args ds gs before hval0 hW hcnd _
  have hval : ∀ (j : Nat) t v, Try.f7.params[j]? = some t → args[j]? = some v → Value.okWide Try.prog W .any base t v := hval0
  have hW' := hW
  obtain ⟨p, q, hA0, hV, rfl, hfz, hnd⟩ := hW
  have hA : DataW.TrodAll enc Try.prog W 0 (fun _ => true) true Try.f7.params.toList args.toList ds p := hA0
  rw [Try.params7] at hA hval
  obtain ⟨v0, vs0, d0, ds0, p0, q0, hargs, rfl, rfl, h0, r0⟩ := trodAll_cons hA
  obtain ⟨v1, vs1, d1, ds1, p1, q1, rfl, rfl, rfl, h1, r1⟩ := trodAll_cons r0
  obtain ⟨rfl, rfl, rfl⟩ := trodAll_nil r1
  obtain rfl : args = #[v0, v1] := by cases args; simp_all
  obtain ⟨rfl, rfl⟩ := trodVars_none hV
  have k0 := h0
  have lt0 : ∀ x ∈ p0, x.block < W.heap.size := by obtain ⟨m, hm⟩ := k0; exact DataW.trod_lt m _ _ _ hm
  obtain ⟨c00, c01, c02, c03, y00, y01, y02, y03, m0, rfl, _, _, hy00, hy01, hy02, hy03⟩ := open_agg4 Try.underlying46 (by kernel_rfl) cellsR (hval 0 46 v0 rfl rfl) h0
  obtain ⟨x00, e00, _, wx00⟩ := DataW.trod_int Try.underlying3 hy00
  obtain ⟨x01, e01, _, wx01⟩ := DataW.trod_int Try.underlying3 hy01
  obtain ⟨x02, e02, _, wx02⟩ := DataW.trod_int Try.underlying3 hy02
  obtain ⟨x03, e03, _, wx03⟩ := DataW.trod_int Try.underlying3 hy03
  simp only [List.cons.injEq, and_true] at e00 e01 e02 e03
  subst e00 e01 e02 e03
  have k1 := h1
  have lt1 : ∀ x ∈ p1, x.block < W.heap.size := by obtain ⟨m, hm⟩ := k1; exact DataW.trod_lt m _ _ _ hm
  obtain ⟨c10, c11, c12, c13, y10, y11, y12, y13, m1, rfl, _, _, hy10, hy11, hy12, hy13⟩ := open_agg4 Try.underlying46 (by kernel_rfl) cellsR (hval 1 46 v1 rfl rfl) h1
  obtain ⟨x10, e10, _, wx10⟩ := DataW.trod_int Try.underlying3 hy10
  obtain ⟨x11, e11, _, wx11⟩ := DataW.trod_int Try.underlying3 hy11
  obtain ⟨x12, e12, _, wx12⟩ := DataW.trod_int Try.underlying3 hy12
  obtain ⟨x13, e13, _, wx13⟩ := DataW.trod_int Try.underlying3 hy13
  simp only [List.cons.injEq, and_true] at e10 e11 e12 e13
  subst e10 e11 e12 e13
  clear hA0 hval0
  refine (walk x00 x01 x02 x03 x10 x11 x12 x13 W).mono fun e W' ⟨he, bel⟩ => ?_
  subst he
  exact ⟨_, rfl, _, _, _, [], _, [], hW', trodAll_mk1 (shut_bool Try.underlying4 _), (trodAll_cons_mk (Below.trod laidOut (by kernel_rfl) (of_decide_eq_true (by kernel_rfl)) k0 bel lt0) (trodAll_cons_mk (Below.trod laidOut (by kernel_rfl) (of_decide_eq_true (by kernel_rfl)) k1 bel lt1) trodAll_mk0)), rfl, bel.frame _, fun h => by cases h⟩
theorem over : Rows.fnExactCoverRectsRow.holds Try.pinned (OpenSpec.ofChange Rows.fnExactCoverRectsSpec) :=
  OpenClaim.holds_of_wide 7 Try.f7 rfl rfl rfl rfl rfl rfl rfl ⟨rfl, rfl, rfl, rfl, rfl⟩ rfl rfl rfl rfl rfl (by kernel_rfl) Try.func7 (by kernel_rfl)
    (of_decide_eq_true (by kernel_rfl)) (by unfold Func.isWrapper; first | (rw [if_pos (by decide +kernel)]; kernel_rfl) | (rw [if_neg (by decide +kernel)]; exact ⟨rfl, rfl⟩))
    (fun os started H enc _ => lifted os started H enc)
theorem proved : Rows.FnExactCoverRectsSaid := over
end Go.Proofs.Ytfhjmmajhohkjac.xCoverRects
