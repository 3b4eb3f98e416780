import Derived.Test.YtogpdpjheknkjabA
import Derived.Test.YtogpdpjheknkjabGrow
import Derived.Deep.RegionHeld3
import Derived.Deep.DrawnRows
import Derived.Deep.RegionWith
namespace Go.Proofs.Ytogpdpjheknkjab
open Go.RowKit
set_option linter.unusedVariables false
attribute [local go_sem 5000] run_mx run_mn
attribute [local go_sem ↓] Go.wp_at_zero Go.wp_at_succ
attribute [local go_sem] growUpon_value growUpon_skip growUpon_enter
theorem wp_gen {P : Program} {c : Code} {Q : Exit → Act → World → Prop} {a : Act} {W : World} (F : World → Prop) (hF : F W) (h : ∀ W0, F W0 → c.wp P Q a W0) : c.wp P Q a W := h W hF
theorem bcell3 {W w1 : World} (hb : Below W.heap.size W w1) : (∀ b o, b < W.heap.size → w1.cell? ⟨b, o, none⟩ = W.cell? ⟨b, o, none⟩) ∧ (∀ b o, b < W.heap.size → w1.frozen? ⟨b, o, none⟩ = W.frozen? ⟨b, o, none⟩) ∧ (∀ b, b < W.heap.size → b < w1.heap.size) :=
  ⟨fun b o h => hb.cell (p := ⟨b, o, none⟩) h, fun b o h => hb.frozen (p := ⟨b, o, none⟩) h, fun b h => Nat.lt_of_lt_of_le h hb.size⟩
theorem bkeep2 {W0 w1 w2 : World} (h : Below W0.heap.size W0 w1) (hb : Below w1.heap.size w1 w2) : Below W0.heap.size W0 w2 := h.trans (hb.mono h.size)
theorem bkeep {B : Nat} {W0 w1 w2 : World} (h : Below B W0 w1) (hb : Below w1.heap.size w1 w2) (hB : B ≤ w1.heap.size) : Below B W0 w2 := h.trans (hb.mono hB)
theorem right_any (x y u v : Int) (w : World) (hS : Sm x y u v) : Calls Try.prog 76 #[.agg #[.int .i64 (x), .int .i64 (y), .int .i64 (u), .int .i64 (v)]] w fun e w' => e = .returned (.int .i64 (x + u)) ∧ Below w.heap.size w w' := by
  obtain ⟨⟨s1, s2⟩, ⟨s3, s4⟩, ⟨s5, s6⟩, ⟨s7, s8⟩⟩ := hS.out
  clear hS
  go_enter Try.func76, Try.ntmps76
  go_wp2
  all_goals try go_quiet (fail)
  all_goals try go_wp2
  go_ret
  exact ⟨rfl, ((Below.refl _ _).alloc (Nat.le_refl _) _)⟩
theorem bottom_any (x y u v : Int) (w : World) (hS : Sm x y u v) : Calls Try.prog 77 #[.agg #[.int .i64 (x), .int .i64 (y), .int .i64 (u), .int .i64 (v)]] w fun e w' => e = .returned (.int .i64 (y + v)) ∧ Below w.heap.size w w' := by
  obtain ⟨⟨s1, s2⟩, ⟨s3, s4⟩, ⟨s5, s6⟩, ⟨s7, s8⟩⟩ := hS.out
  clear hS
  go_enter Try.func77, Try.ntmps77
  go_wp2
  all_goals try go_quiet (fail)
  all_goals try go_wp2
  go_ret
  exact ⟨rfl, ((Below.refl _ _).alloc (Nat.le_refl _) _)⟩
theorem corners_any (l t r b : Int) (w : World) (hS : Sm l t r b) :
    Calls Try.prog 75 #[.int .i64 l, .int .i64 t, .int .i64 r, .int .i64 b] w fun e w' => e = .returned (.agg #[.int .i64 (l), .int .i64 (t), .int .i64 (r - l), .int .i64 (b - t)]) ∧ Below w.heap.size w w' := by
  obtain ⟨⟨s1, s2⟩, ⟨s3, s4⟩, ⟨s5, s6⟩, ⟨s7, s8⟩⟩ := hS.out
  clear hS
  go_enter Try.func75, Try.ntmps75
  go_wp2
  exact bodyPost_ret (v := .agg #[.int .i64 (l), .int .i64 (t), .int .i64 (r - l), .int .i64 (b - t)]) (by simp [results, Try.results75, go_sem]) rfl ⟨rfl, (Below.refl _ _).alloc (Nat.le_refl _) _⟩
set_option maxRecDepth 100000 in
set_option maxHeartbeats 1000000 in
theorem meet_no (x y u v x' y' u' v' : Int) (w : World) (h1 : vr x y u v = true) (h2 : vr x' y' u' v' = true) (h3 : hitB x y u v x' y' u' v' = false) :
    Calls Try.prog 50 #[.agg #[.int .i64 (x), .int .i64 (y), .int .i64 (u), .int .i64 (v)], .agg #[.int .i64 (x'), .int .i64 (y'), .int .i64 (u'), .int .i64 (v')]] w fun e w' => (e = .returned (.tuple #[.agg #[.int .i64 (0), .int .i64 (0), .int .i64 (0), .int .i64 (0)], .bool false])) ∧ Below w.heap.size w w' := by
  obtain ⟨m1, m2, m3, m4, m5, m6, m7, m8⟩ := meet_bds h1 h2
  have S1 := Sm_vr h1
  have S2 := Sm_vr h2
  have S3 : Sm (mx x x') (mx y y') (mn (x + u) (x' + u')) (mn (y + v) (y' + v')) := Sm_of (by omega)
  rw [hitB_not] at h3
  by_cases h4 : mn (x + u) (x' + u') - mx x x' ≤ 0
  all_goals
    go_enter Try.func50, Try.ntmps50
    go_wp2_with fail
    refine wp_named (fun W1 e1 => ?_)
    replace e1 := Lib.hid e1
    refine wp_region_grow 21 2 (· < 22) (by kernel_rfl) (by kernel_rfl) rfl ?_
    iterate 21 (refine wpG_step (fun K hK => ?_); apply Exists.intro; refine ⟨.inl ⟨rfl, fun w' hw' => ?_⟩, ?_⟩; (focus ((obtain ⟨hc, hf⟩ := bcell hw'.out); (have hcS := bcellS hw'.out); go_simp <;> first | rfl | (go_at_call 76; exact right_any _ _ _ _ _ (by assumption)) | (go_at_call 77; exact bottom_any _ _ _ _ _ (by assumption)) | (go_at_call 75; exact corners_any _ _ _ _ _ (by assumption)))); (go_simp; refine hK _ ?_; clear hK K))
    refine wpG_nil ?_
    refine wpK_one (i := 21) (by kernel_rfl) rfl rfl (by kernel_rfl) (fun w1_0 h1_0 => ?_)
    go_simp
    refine ⟨Gr.alloc _ _, ?_⟩
    refine wpK_tail (by kernel_rfl) (fun w1_9 h1_9 => ?_)
    obtain ⟨hc1_9, hf1_9⟩ := bcell h1_9.out
    refine wpAny_one (i := 22) (by kernel_rfl) rfl rfl ?_
    go_simp
    refine wpAny_end (by kernel_rfl) ?_
    have s1_a : W1.heap.size ≤ w1_9.heap.size := by rw [e1.out]; exact Nat.le_trans h1_0.out.size (Nat.le_trans (by simp) h1_9.out.size)
    have s1_b : W1.heap.size ≤ w1_0.heap.size := by rw [e1.out]; exact h1_0.out.size
    have s1_c : w1_0.heap.size < w1_9.heap.size := by have := h1_9.out.size; simp at this; omega
    have b1_a : Below W1.heap.size W1 w1_9 := by rw [e1.out]; exact bgrow (balloc (bgrow (Below.refl _ _).drew h1_0)) h1_9
    refine NoPan.gen (fun wf => Below W1.heap.size W1 wf ∧ W1.heap.size ≤ w1_0.heap.size ∧ w1_0.heap.size < wf.heap.size ∧ wf.cell? ⟨w1_0.heap.size, 0, none⟩ = some (.int .i64 (mx x x')) ∧ wf.frozen? ⟨w1_0.heap.size, 0, none⟩ = false ∧ wf.cell? ⟨w1_0.heap.size, 1, none⟩ = some (.int .i64 (mx y y')) ∧ wf.frozen? ⟨w1_0.heap.size, 1, none⟩ = false ∧ wf.cell? ⟨w1_0.heap.size, 2, none⟩ = some (.int .i64 (mn (x + u) (x' + u') - mx x x')) ∧ wf.frozen? ⟨w1_0.heap.size, 2, none⟩ = false ∧ wf.cell? ⟨w1_0.heap.size, 3, none⟩ = some (.int .i64 (mn (y + v) (y' + v') - mx y y')) ∧ wf.frozen? ⟨w1_0.heap.size, 3, none⟩ = false) ?_ (fun wf1 hwf1 => ?_)
    · refine ⟨by repeat (first | exact b1_a | (refine bset ?_ ?_; rotate_left; ((try dsimp only); omega))), ?_⟩
      refine ⟨s1_b, ?_⟩
      refine ⟨by simp; omega, ?_⟩
      go_simp
    generalize hgb1 : w1_0.heap.size = b1 at *
    have E := e1.out
    subst E
    obtain ⟨hB1, hl1, hu1, c1_0, f1_0, c1_1, f1_1, c1_2, f1_2, c1_3, f1_3⟩ := hwf1
    try simp only [World.size_alloc] at hl1
    clear hgb1 e1 hc1_9 hf1_9 s1_a s1_b s1_c b1_a h1_9 w1_9 h1_0 w1_0
    obtain ⟨hc1, hf1⟩ := bcell hB1
    go_wp2
    exact bodyPost_ret (v := .tuple #[.agg #[.int .i64 (0), .int .i64 (0), .int .i64 (0), .int .i64 (0)], .bool false]) (by simp only [results, Try.results50]; go_simp) rfl ⟨rfl, (by repeat (first | with_reducible exact Below.refl _ _ | with_reducible assumption | with_reducible refine balloc ?_ | (with_reducible refine bset ?_ ?_; rotate_left; ((try dsimp only); omega)) | refine bkeep2 ?_ (by assumption) | with_reducible refine Below.drew ?_))⟩
set_option maxRecDepth 100000 in
set_option maxHeartbeats 1000000 in
theorem meet_yes (x y u v x' y' u' v' : Int) (w : World) (h1 : vr x y u v = true) (h2 : vr x' y' u' v' = true) (h3 : hitB x y u v x' y' u' v' = true) :
    Calls Try.prog 50 #[.agg #[.int .i64 (x), .int .i64 (y), .int .i64 (u), .int .i64 (v)], .agg #[.int .i64 (x'), .int .i64 (y'), .int .i64 (u'), .int .i64 (v')]] w fun e w' => (e = .returned (.tuple #[.agg #[.int .i64 (mx x x'), .int .i64 (mx y y'), .int .i64 (mn (x + u) (x' + u') - mx x x'), .int .i64 (mn (y + v) (y' + v') - mx y y')], .bool true])) ∧ Below w.heap.size w w' := by
  obtain ⟨m1, m2, m3, m4, m5, m6, m7, m8⟩ := meet_bds h1 h2
  have S1 := Sm_vr h1
  have S2 := Sm_vr h2
  have S3 : Sm (mx x x') (mx y y') (mn (x + u) (x' + u')) (mn (y + v) (y' + v')) := Sm_of (by omega)
  rw [hitB_iff] at h3
  obtain ⟨h4, h5⟩ := h3
  all_goals
    go_enter Try.func50, Try.ntmps50
    go_wp2_with fail
    refine wp_named (fun W1 e1 => ?_)
    replace e1 := Lib.hid e1
    refine wp_region_grow 21 2 (· < 22) (by kernel_rfl) (by kernel_rfl) rfl ?_
    iterate 21 (refine wpG_step (fun K hK => ?_); apply Exists.intro; refine ⟨.inl ⟨rfl, fun w' hw' => ?_⟩, ?_⟩; (focus ((obtain ⟨hc, hf⟩ := bcell hw'.out); (have hcS := bcellS hw'.out); go_simp <;> first | rfl | (go_at_call 76; exact right_any _ _ _ _ _ (by assumption)) | (go_at_call 77; exact bottom_any _ _ _ _ _ (by assumption)) | (go_at_call 75; exact corners_any _ _ _ _ _ (by assumption)))); (go_simp; refine hK _ ?_; clear hK K))
    refine wpG_nil ?_
    refine wpK_one (i := 21) (by kernel_rfl) rfl rfl (by kernel_rfl) (fun w1_0 h1_0 => ?_)
    go_simp
    refine ⟨Gr.alloc _ _, ?_⟩
    refine wpK_tail (by kernel_rfl) (fun w1_9 h1_9 => ?_)
    obtain ⟨hc1_9, hf1_9⟩ := bcell h1_9.out
    refine wpAny_one (i := 22) (by kernel_rfl) rfl rfl ?_
    go_simp
    refine wpAny_end (by kernel_rfl) ?_
    have s1_a : W1.heap.size ≤ w1_9.heap.size := by rw [e1.out]; exact Nat.le_trans h1_0.out.size (Nat.le_trans (by simp) h1_9.out.size)
    have s1_b : W1.heap.size ≤ w1_0.heap.size := by rw [e1.out]; exact h1_0.out.size
    have s1_c : w1_0.heap.size < w1_9.heap.size := by have := h1_9.out.size; simp at this; omega
    have b1_a : Below W1.heap.size W1 w1_9 := by rw [e1.out]; exact bgrow (balloc (bgrow (Below.refl _ _).drew h1_0)) h1_9
    refine NoPan.gen (fun wf => Below W1.heap.size W1 wf ∧ W1.heap.size ≤ w1_0.heap.size ∧ w1_0.heap.size < wf.heap.size ∧ wf.cell? ⟨w1_0.heap.size, 0, none⟩ = some (.int .i64 (mx x x')) ∧ wf.frozen? ⟨w1_0.heap.size, 0, none⟩ = false ∧ wf.cell? ⟨w1_0.heap.size, 1, none⟩ = some (.int .i64 (mx y y')) ∧ wf.frozen? ⟨w1_0.heap.size, 1, none⟩ = false ∧ wf.cell? ⟨w1_0.heap.size, 2, none⟩ = some (.int .i64 (mn (x + u) (x' + u') - mx x x')) ∧ wf.frozen? ⟨w1_0.heap.size, 2, none⟩ = false ∧ wf.cell? ⟨w1_0.heap.size, 3, none⟩ = some (.int .i64 (mn (y + v) (y' + v') - mx y y')) ∧ wf.frozen? ⟨w1_0.heap.size, 3, none⟩ = false) ?_ (fun wf1 hwf1 => ?_)
    · refine ⟨by repeat (first | exact b1_a | (refine bset ?_ ?_; rotate_left; ((try dsimp only); omega))), ?_⟩
      refine ⟨s1_b, ?_⟩
      refine ⟨by simp; omega, ?_⟩
      go_simp
    generalize hgb1 : w1_0.heap.size = b1 at *
    have E := e1.out
    subst E
    obtain ⟨hB1, hl1, hu1, c1_0, f1_0, c1_1, f1_1, c1_2, f1_2, c1_3, f1_3⟩ := hwf1
    try simp only [World.size_alloc] at hl1
    clear hgb1 e1 hc1_9 hf1_9 s1_a s1_b s1_c b1_a h1_9 w1_9 h1_0 w1_0
    obtain ⟨hc1, hf1⟩ := bcell hB1
    go_wp2
    exact bodyPost_ret (v := .tuple #[.agg #[.int .i64 (mx x x'), .int .i64 (mx y y'), .int .i64 (mn (x + u) (x' + u') - mx x x'), .int .i64 (mn (y + v) (y' + v') - mx y y')], .bool true]) (by simp only [results, Try.results50]; go_simp) rfl ⟨rfl, (by repeat (first | with_reducible exact Below.refl _ _ | with_reducible assumption | with_reducible refine balloc ?_ | (with_reducible refine bset ?_ ?_; rotate_left; ((try dsimp only); omega)) | refine bkeep2 ?_ (by assumption) | with_reducible refine Below.drew ?_))⟩
end Go.Proofs.Ytogpdpjheknkjab
