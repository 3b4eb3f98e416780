import Derived.Test.YtnkoeekgdehhiaaD6
import Derived.Laws.EntriesVeiled
namespace Go.Proofs.Ytnkoeekgdehhiaa
open Go.RowKit
set_option linter.unusedVariables false
attribute [local go_sem 5000] run_mx run_mn run_eqlR run_neqR
attribute [local go_sem] growUpon_value growUpon_skip growUpon_enter
set_option maxHeartbeats 1000000
theorem cutters_any (w : World) : Calls Try.prog 70 #[] w fun e w' => e = .returned (.agg #[.func (.func 77) #[] #[], .func (.func 78) #[] #[], .func (.func 79) #[] #[], .func (.func 80) #[] #[]]) ∧ Below w.heap.size w w' := by
  go_enter Try.func70, Try.ntmps70
  go_wp2
  exact bodyPost_ret (v := .agg #[.func (.func 77) #[] #[], .func (.func 78) #[] #[], .func (.func 79) #[] #[], .func (.func 80) #[] #[]]) (by simp only [results, Try.results70]; go_simp) rfl ⟨rfl, (by repeat (first | with_reducible exact Below.refl _ _ | with_reducible assumption | with_reducible refine balloc ?_ | (with_reducible refine bset ?_ ?_; rotate_left; ((try dsimp only); omega)) | refine bkeep2 ?_ (by assumption) | with_reducible refine Below.drew ?_))⟩
set_option maxRecDepth 100000 in
theorem cut0_any (x y u v n : Int) (w : World) (h1 : vr x y u v = true) (h2 : 0 ≤ n) :
    Calls Try.prog 58 #[.agg #[.int .i64 (x), .int .i64 (y), .int .i64 (u), .int .i64 (v)], .int .i64 0, .int .i64 n] w fun e w' => e = .returned (.tuple #[.agg #[.int .i64 (x), .int .i64 (y), .int .i64 (u), .int .i64 (mn n v)], .agg #[.int .i64 (x), .int .i64 (y + mn n v), .int .i64 (u), .int .i64 (v - mn n v)]]) ∧ Below w.heap.size w w' := by
  have i0 : ∀ w, (Instr.index 85 (.agg #[.func (.func 77) #[] #[], .func (.func 78) #[] #[], .func (.func 79) #[] #[], .func (.func 80) #[] #[]]) (.int .i64 0)).run Try.prog w = .ok (.func (.func 77) #[] #[]) w := fun _ => by kernel_rfl
  go_enter Try.func58, Try.ntmps58
  go_wp2_with fail
  refine wp_region_grow 8 2 (· < 8) (by kernel_rfl) (by kernel_rfl) rfl ?_
  iterate 8 (refine wpG_step (fun K hK => ?_); apply Exists.intro; refine ⟨.inl ⟨rfl, fun w' hw' => ?_⟩, ?_⟩; (focus ((obtain ⟨hc, hf⟩ := bcell hw'.out); (have hcS := bcellS hw'.out); go_simp <;> first | rfl | (go_at_call 70; exact cutters_any _) | (go_at_call 77; exact cutTop_any x y u v n (mn n v) (v - mn n v) _ h1 h2 rfl rfl))); (go_simp; refine hK _ ?_; clear hK K))
  refine wpG_nil ?_
  refine wpK_tail (by kernel_rfl) (fun wt1 ht1 => ?_)
  obtain ⟨hct1, hft1⟩ := bcell ht1.out
  have kb0_0 : wt1.cell? ⟨w.heap.size + 1, 0, none⟩ = some (.int .i64 (0)) := by go_simp
  have kg0_0 : wt1.frozen? ⟨w.heap.size + 1, 0, none⟩ = false := by go_simp
  have kb0_1 : wt1.cell? ⟨w.heap.size + 1, 1, none⟩ = some (.int .i64 (0)) := by go_simp
  have kg0_1 : wt1.frozen? ⟨w.heap.size + 1, 1, none⟩ = false := by go_simp
  have kb0_2 : wt1.cell? ⟨w.heap.size + 1, 2, none⟩ = some (.int .i64 (0)) := by go_simp
  have kg0_2 : wt1.frozen? ⟨w.heap.size + 1, 2, none⟩ = false := by go_simp
  have kb0_3 : wt1.cell? ⟨w.heap.size + 1, 3, none⟩ = some (.int .i64 (0)) := by go_simp
  have kg0_3 : wt1.frozen? ⟨w.heap.size + 1, 3, none⟩ = false := by go_simp
  have kb1_0 : wt1.cell? ⟨w.heap.size + 1 + 1, 0, none⟩ = some (.int .i64 (0)) := by go_simp
  have kg1_0 : wt1.frozen? ⟨w.heap.size + 1 + 1, 0, none⟩ = false := by go_simp
  have kb1_1 : wt1.cell? ⟨w.heap.size + 1 + 1, 1, none⟩ = some (.int .i64 (0)) := by go_simp
  have kg1_1 : wt1.frozen? ⟨w.heap.size + 1 + 1, 1, none⟩ = false := by go_simp
  have kb1_2 : wt1.cell? ⟨w.heap.size + 1 + 1, 2, none⟩ = some (.int .i64 (0)) := by go_simp
  have kg1_2 : wt1.frozen? ⟨w.heap.size + 1 + 1, 2, none⟩ = false := by go_simp
  have kb1_3 : wt1.cell? ⟨w.heap.size + 1 + 1, 3, none⟩ = some (.int .i64 (0)) := by go_simp
  have kg1_3 : wt1.frozen? ⟨w.heap.size + 1 + 1, 3, none⟩ = false := by go_simp
  clear hct1 hft1
  refine wpAny_one (i := 8) (by kernel_rfl) rfl rfl ?_
  go_simp
  refine wpAny_one (i := 9) (by kernel_rfl) rfl rfl ?_
  go_simp
  refine wpAny_end (by kernel_rfl) ?_
  have XA := box4 (w := wt1) (b := w.heap.size + 1) (.int .i64 (x)) (.int .i64 (y)) (.int .i64 (u)) (.int .i64 (mn n v)) kb0_0 kb0_1 kb0_2 kb0_3
  have XB := box4 (b := w.heap.size + 1 + 1) (.int .i64 (x)) (.int .i64 (y + mn n v)) (.int .i64 (u)) (.int .i64 (v - mn n v)) ((XA.2.2.2.2 (w.heap.size + 1 + 1) 0 (by omega)).trans kb1_0) ((XA.2.2.2.2 (w.heap.size + 1 + 1) 1 (by omega)).trans kb1_1) ((XA.2.2.2.2 (w.heap.size + 1 + 1) 2 (by omega)).trans kb1_2) ((XA.2.2.2.2 (w.heap.size + 1 + 1) 3 (by omega)).trans kb1_3)
  refine NoPan.gen (fun wf => Below w.heap.size w wf ∧ wf.cell? ⟨w.heap.size + 1, 0, none⟩ = some (.int .i64 (x)) ∧ wf.cell? ⟨w.heap.size + 1, 1, none⟩ = some (.int .i64 (y)) ∧ wf.cell? ⟨w.heap.size + 1, 2, none⟩ = some (.int .i64 (u)) ∧ wf.cell? ⟨w.heap.size + 1, 3, none⟩ = some (.int .i64 (mn n v)) ∧ wf.cell? ⟨w.heap.size + 1 + 1, 0, none⟩ = some (.int .i64 (x)) ∧ wf.cell? ⟨w.heap.size + 1 + 1, 1, none⟩ = some (.int .i64 (y + mn n v)) ∧ wf.cell? ⟨w.heap.size + 1 + 1, 2, none⟩ = some (.int .i64 (u)) ∧ wf.cell? ⟨w.heap.size + 1 + 1, 3, none⟩ = some (.int .i64 (v - mn n v))) ⟨(by repeat (first | with_reducible exact Below.refl _ _ | with_reducible assumption | with_reducible refine balloc ?_ | (with_reducible refine bset ?_ ?_; rotate_left; ((try dsimp only); omega)) | refine bkeep2 ?_ (by assumption) | with_reducible refine Below.drew ?_)), (XB.2.2.2.2 (w.heap.size + 1) 0 (by omega)).trans XA.1, (XB.2.2.2.2 (w.heap.size + 1) 1 (by omega)).trans XA.2.1, (XB.2.2.2.2 (w.heap.size + 1) 2 (by omega)).trans XA.2.2.1, (XB.2.2.2.2 (w.heap.size + 1) 3 (by omega)).trans XA.2.2.2.1, XB.1, XB.2.1, XB.2.2.1, XB.2.2.2.1⟩ (fun wf hwf => ?_)
  clear XA XB kb0_0 kb0_1 kb0_2 kb0_3 kb1_0 kb1_1 kb1_2 kb1_3 kg0_0 kg0_1 kg0_2 kg0_3 kg1_0 kg1_1 kg1_2 kg1_3
  obtain ⟨hBf, z0, z1, z2, z3, z4, z5, z6, z7⟩ := hwf
  go_wp2
  exact bodyPost_ret (v := .tuple #[.agg #[.int .i64 (x), .int .i64 (y), .int .i64 (u), .int .i64 (mn n v)], .agg #[.int .i64 (x), .int .i64 (y + mn n v), .int .i64 (u), .int .i64 (v - mn n v)]]) (by simp only [results, Try.results58]; go_simp) rfl ⟨rfl, (by repeat (first | with_reducible exact Below.refl _ _ | with_reducible assumption | with_reducible refine balloc ?_ | (with_reducible refine bset ?_ ?_; rotate_left; ((try dsimp only); omega)) | refine bkeep2 ?_ (by assumption) | with_reducible refine Below.drew ?_))⟩
set_option maxRecDepth 100000 in
theorem cut1_any (x y u v n : Int) (w : World) (h1 : vr x y u v = true) (h2 : 0 ≤ n) :
    Calls Try.prog 58 #[.agg #[.int .i64 (x), .int .i64 (y), .int .i64 (u), .int .i64 (v)], .int .i64 1, .int .i64 n] w fun e w' => e = .returned (.tuple #[.agg #[.int .i64 (x), .int .i64 (y + (v - mn n v)), .int .i64 (u), .int .i64 (mn n v)], .agg #[.int .i64 (x), .int .i64 (y), .int .i64 (u), .int .i64 (v - mn n v)]]) ∧ Below w.heap.size w w' := by
  have i0 : ∀ w, (Instr.index 85 (.agg #[.func (.func 77) #[] #[], .func (.func 78) #[] #[], .func (.func 79) #[] #[], .func (.func 80) #[] #[]]) (.int .i64 1)).run Try.prog w = .ok (.func (.func 78) #[] #[]) w := fun _ => by kernel_rfl
  go_enter Try.func58, Try.ntmps58
  go_wp2_with fail
  refine wp_region_grow 8 2 (· < 8) (by kernel_rfl) (by kernel_rfl) rfl ?_
  iterate 8 (refine wpG_step (fun K hK => ?_); apply Exists.intro; refine ⟨.inl ⟨rfl, fun w' hw' => ?_⟩, ?_⟩; (focus ((obtain ⟨hc, hf⟩ := bcell hw'.out); (have hcS := bcellS hw'.out); go_simp <;> first | rfl | (go_at_call 70; exact cutters_any _) | (go_at_call 78; exact cutBottom_any x y u v n _ h1 h2))); (go_simp; refine hK _ ?_; clear hK K))
  refine wpG_nil ?_
  refine wpK_tail (by kernel_rfl) (fun wt1 ht1 => ?_)
  obtain ⟨hct1, hft1⟩ := bcell ht1.out
  have kb0_0 : wt1.cell? ⟨w.heap.size + 1, 0, none⟩ = some (.int .i64 (0)) := by go_simp
  have kg0_0 : wt1.frozen? ⟨w.heap.size + 1, 0, none⟩ = false := by go_simp
  have kb0_1 : wt1.cell? ⟨w.heap.size + 1, 1, none⟩ = some (.int .i64 (0)) := by go_simp
  have kg0_1 : wt1.frozen? ⟨w.heap.size + 1, 1, none⟩ = false := by go_simp
  have kb0_2 : wt1.cell? ⟨w.heap.size + 1, 2, none⟩ = some (.int .i64 (0)) := by go_simp
  have kg0_2 : wt1.frozen? ⟨w.heap.size + 1, 2, none⟩ = false := by go_simp
  have kb0_3 : wt1.cell? ⟨w.heap.size + 1, 3, none⟩ = some (.int .i64 (0)) := by go_simp
  have kg0_3 : wt1.frozen? ⟨w.heap.size + 1, 3, none⟩ = false := by go_simp
  have kb1_0 : wt1.cell? ⟨w.heap.size + 1 + 1, 0, none⟩ = some (.int .i64 (0)) := by go_simp
  have kg1_0 : wt1.frozen? ⟨w.heap.size + 1 + 1, 0, none⟩ = false := by go_simp
  have kb1_1 : wt1.cell? ⟨w.heap.size + 1 + 1, 1, none⟩ = some (.int .i64 (0)) := by go_simp
  have kg1_1 : wt1.frozen? ⟨w.heap.size + 1 + 1, 1, none⟩ = false := by go_simp
  have kb1_2 : wt1.cell? ⟨w.heap.size + 1 + 1, 2, none⟩ = some (.int .i64 (0)) := by go_simp
  have kg1_2 : wt1.frozen? ⟨w.heap.size + 1 + 1, 2, none⟩ = false := by go_simp
  have kb1_3 : wt1.cell? ⟨w.heap.size + 1 + 1, 3, none⟩ = some (.int .i64 (0)) := by go_simp
  have kg1_3 : wt1.frozen? ⟨w.heap.size + 1 + 1, 3, none⟩ = false := by go_simp
  clear hct1 hft1
  refine wpAny_one (i := 8) (by kernel_rfl) rfl rfl ?_
  go_simp
  refine wpAny_one (i := 9) (by kernel_rfl) rfl rfl ?_
  go_simp
  refine wpAny_end (by kernel_rfl) ?_
  have XA := box4 (w := wt1) (b := w.heap.size + 1) (.int .i64 (x)) (.int .i64 (y + (v - mn n v))) (.int .i64 (u)) (.int .i64 (mn n v)) kb0_0 kb0_1 kb0_2 kb0_3
  have XB := box4 (b := w.heap.size + 1 + 1) (.int .i64 (x)) (.int .i64 (y)) (.int .i64 (u)) (.int .i64 (v - mn n v)) ((XA.2.2.2.2 (w.heap.size + 1 + 1) 0 (by omega)).trans kb1_0) ((XA.2.2.2.2 (w.heap.size + 1 + 1) 1 (by omega)).trans kb1_1) ((XA.2.2.2.2 (w.heap.size + 1 + 1) 2 (by omega)).trans kb1_2) ((XA.2.2.2.2 (w.heap.size + 1 + 1) 3 (by omega)).trans kb1_3)
  refine NoPan.gen (fun wf => Below w.heap.size w wf ∧ wf.cell? ⟨w.heap.size + 1, 0, none⟩ = some (.int .i64 (x)) ∧ wf.cell? ⟨w.heap.size + 1, 1, none⟩ = some (.int .i64 (y + (v - mn n v))) ∧ wf.cell? ⟨w.heap.size + 1, 2, none⟩ = some (.int .i64 (u)) ∧ wf.cell? ⟨w.heap.size + 1, 3, none⟩ = some (.int .i64 (mn n v)) ∧ wf.cell? ⟨w.heap.size + 1 + 1, 0, none⟩ = some (.int .i64 (x)) ∧ wf.cell? ⟨w.heap.size + 1 + 1, 1, none⟩ = some (.int .i64 (y)) ∧ wf.cell? ⟨w.heap.size + 1 + 1, 2, none⟩ = some (.int .i64 (u)) ∧ wf.cell? ⟨w.heap.size + 1 + 1, 3, none⟩ = some (.int .i64 (v - mn n v))) ⟨(by repeat (first | with_reducible exact Below.refl _ _ | with_reducible assumption | with_reducible refine balloc ?_ | (with_reducible refine bset ?_ ?_; rotate_left; ((try dsimp only); omega)) | refine bkeep2 ?_ (by assumption) | with_reducible refine Below.drew ?_)), (XB.2.2.2.2 (w.heap.size + 1) 0 (by omega)).trans XA.1, (XB.2.2.2.2 (w.heap.size + 1) 1 (by omega)).trans XA.2.1, (XB.2.2.2.2 (w.heap.size + 1) 2 (by omega)).trans XA.2.2.1, (XB.2.2.2.2 (w.heap.size + 1) 3 (by omega)).trans XA.2.2.2.1, XB.1, XB.2.1, XB.2.2.1, XB.2.2.2.1⟩ (fun wf hwf => ?_)
  clear XA XB kb0_0 kb0_1 kb0_2 kb0_3 kb1_0 kb1_1 kb1_2 kb1_3 kg0_0 kg0_1 kg0_2 kg0_3 kg1_0 kg1_1 kg1_2 kg1_3
  obtain ⟨hBf, z0, z1, z2, z3, z4, z5, z6, z7⟩ := hwf
  go_wp2
  exact bodyPost_ret (v := .tuple #[.agg #[.int .i64 (x), .int .i64 (y + (v - mn n v)), .int .i64 (u), .int .i64 (mn n v)], .agg #[.int .i64 (x), .int .i64 (y), .int .i64 (u), .int .i64 (v - mn n v)]]) (by simp only [results, Try.results58]; go_simp) rfl ⟨rfl, (by repeat (first | with_reducible exact Below.refl _ _ | with_reducible assumption | with_reducible refine balloc ?_ | (with_reducible refine bset ?_ ?_; rotate_left; ((try dsimp only); omega)) | refine bkeep2 ?_ (by assumption) | with_reducible refine Below.drew ?_))⟩
set_option maxRecDepth 100000 in
theorem cut2_any (x y u v n : Int) (w : World) (h1 : vr x y u v = true) (h2 : 0 ≤ n) :
    Calls Try.prog 58 #[.agg #[.int .i64 (x), .int .i64 (y), .int .i64 (u), .int .i64 (v)], .int .i64 2, .int .i64 n] w fun e w' => e = .returned (.tuple #[.agg #[.int .i64 (x), .int .i64 (y), .int .i64 (mn n u), .int .i64 (v)], .agg #[.int .i64 (x + mn n u), .int .i64 (y), .int .i64 (u - mn n u), .int .i64 (v)]]) ∧ Below w.heap.size w w' := by
  have i0 : ∀ w, (Instr.index 85 (.agg #[.func (.func 77) #[] #[], .func (.func 78) #[] #[], .func (.func 79) #[] #[], .func (.func 80) #[] #[]]) (.int .i64 2)).run Try.prog w = .ok (.func (.func 79) #[] #[]) w := fun _ => by kernel_rfl
  go_enter Try.func58, Try.ntmps58
  go_wp2_with fail
  refine wp_region_grow 8 2 (· < 8) (by kernel_rfl) (by kernel_rfl) rfl ?_
  iterate 8 (refine wpG_step (fun K hK => ?_); apply Exists.intro; refine ⟨.inl ⟨rfl, fun w' hw' => ?_⟩, ?_⟩; (focus ((obtain ⟨hc, hf⟩ := bcell hw'.out); (have hcS := bcellS hw'.out); go_simp <;> first | rfl | (go_at_call 70; exact cutters_any _) | (go_at_call 79; exact cutLeft_any x y u v n (mn n u) (u - mn n u) _ h1 h2 rfl rfl))); (go_simp; refine hK _ ?_; clear hK K))
  refine wpG_nil ?_
  refine wpK_tail (by kernel_rfl) (fun wt1 ht1 => ?_)
  obtain ⟨hct1, hft1⟩ := bcell ht1.out
  have kb0_0 : wt1.cell? ⟨w.heap.size + 1, 0, none⟩ = some (.int .i64 (0)) := by go_simp
  have kg0_0 : wt1.frozen? ⟨w.heap.size + 1, 0, none⟩ = false := by go_simp
  have kb0_1 : wt1.cell? ⟨w.heap.size + 1, 1, none⟩ = some (.int .i64 (0)) := by go_simp
  have kg0_1 : wt1.frozen? ⟨w.heap.size + 1, 1, none⟩ = false := by go_simp
  have kb0_2 : wt1.cell? ⟨w.heap.size + 1, 2, none⟩ = some (.int .i64 (0)) := by go_simp
  have kg0_2 : wt1.frozen? ⟨w.heap.size + 1, 2, none⟩ = false := by go_simp
  have kb0_3 : wt1.cell? ⟨w.heap.size + 1, 3, none⟩ = some (.int .i64 (0)) := by go_simp
  have kg0_3 : wt1.frozen? ⟨w.heap.size + 1, 3, none⟩ = false := by go_simp
  have kb1_0 : wt1.cell? ⟨w.heap.size + 1 + 1, 0, none⟩ = some (.int .i64 (0)) := by go_simp
  have kg1_0 : wt1.frozen? ⟨w.heap.size + 1 + 1, 0, none⟩ = false := by go_simp
  have kb1_1 : wt1.cell? ⟨w.heap.size + 1 + 1, 1, none⟩ = some (.int .i64 (0)) := by go_simp
  have kg1_1 : wt1.frozen? ⟨w.heap.size + 1 + 1, 1, none⟩ = false := by go_simp
  have kb1_2 : wt1.cell? ⟨w.heap.size + 1 + 1, 2, none⟩ = some (.int .i64 (0)) := by go_simp
  have kg1_2 : wt1.frozen? ⟨w.heap.size + 1 + 1, 2, none⟩ = false := by go_simp
  have kb1_3 : wt1.cell? ⟨w.heap.size + 1 + 1, 3, none⟩ = some (.int .i64 (0)) := by go_simp
  have kg1_3 : wt1.frozen? ⟨w.heap.size + 1 + 1, 3, none⟩ = false := by go_simp
  clear hct1 hft1
  refine wpAny_one (i := 8) (by kernel_rfl) rfl rfl ?_
  go_simp
  refine wpAny_one (i := 9) (by kernel_rfl) rfl rfl ?_
  go_simp
  refine wpAny_end (by kernel_rfl) ?_
  have XA := box4 (w := wt1) (b := w.heap.size + 1) (.int .i64 (x)) (.int .i64 (y)) (.int .i64 (mn n u)) (.int .i64 (v)) kb0_0 kb0_1 kb0_2 kb0_3
  have XB := box4 (b := w.heap.size + 1 + 1) (.int .i64 (x + mn n u)) (.int .i64 (y)) (.int .i64 (u - mn n u)) (.int .i64 (v)) ((XA.2.2.2.2 (w.heap.size + 1 + 1) 0 (by omega)).trans kb1_0) ((XA.2.2.2.2 (w.heap.size + 1 + 1) 1 (by omega)).trans kb1_1) ((XA.2.2.2.2 (w.heap.size + 1 + 1) 2 (by omega)).trans kb1_2) ((XA.2.2.2.2 (w.heap.size + 1 + 1) 3 (by omega)).trans kb1_3)
  refine NoPan.gen (fun wf => Below w.heap.size w wf ∧ wf.cell? ⟨w.heap.size + 1, 0, none⟩ = some (.int .i64 (x)) ∧ wf.cell? ⟨w.heap.size + 1, 1, none⟩ = some (.int .i64 (y)) ∧ wf.cell? ⟨w.heap.size + 1, 2, none⟩ = some (.int .i64 (mn n u)) ∧ wf.cell? ⟨w.heap.size + 1, 3, none⟩ = some (.int .i64 (v)) ∧ wf.cell? ⟨w.heap.size + 1 + 1, 0, none⟩ = some (.int .i64 (x + mn n u)) ∧ wf.cell? ⟨w.heap.size + 1 + 1, 1, none⟩ = some (.int .i64 (y)) ∧ wf.cell? ⟨w.heap.size + 1 + 1, 2, none⟩ = some (.int .i64 (u - mn n u)) ∧ wf.cell? ⟨w.heap.size + 1 + 1, 3, none⟩ = some (.int .i64 (v))) ⟨(by repeat (first | with_reducible exact Below.refl _ _ | with_reducible assumption | with_reducible refine balloc ?_ | (with_reducible refine bset ?_ ?_; rotate_left; ((try dsimp only); omega)) | refine bkeep2 ?_ (by assumption) | with_reducible refine Below.drew ?_)), (XB.2.2.2.2 (w.heap.size + 1) 0 (by omega)).trans XA.1, (XB.2.2.2.2 (w.heap.size + 1) 1 (by omega)).trans XA.2.1, (XB.2.2.2.2 (w.heap.size + 1) 2 (by omega)).trans XA.2.2.1, (XB.2.2.2.2 (w.heap.size + 1) 3 (by omega)).trans XA.2.2.2.1, XB.1, XB.2.1, XB.2.2.1, XB.2.2.2.1⟩ (fun wf hwf => ?_)
  clear XA XB kb0_0 kb0_1 kb0_2 kb0_3 kb1_0 kb1_1 kb1_2 kb1_3 kg0_0 kg0_1 kg0_2 kg0_3 kg1_0 kg1_1 kg1_2 kg1_3
  obtain ⟨hBf, z0, z1, z2, z3, z4, z5, z6, z7⟩ := hwf
  go_wp2
  exact bodyPost_ret (v := .tuple #[.agg #[.int .i64 (x), .int .i64 (y), .int .i64 (mn n u), .int .i64 (v)], .agg #[.int .i64 (x + mn n u), .int .i64 (y), .int .i64 (u - mn n u), .int .i64 (v)]]) (by simp only [results, Try.results58]; go_simp) rfl ⟨rfl, (by repeat (first | with_reducible exact Below.refl _ _ | with_reducible assumption | with_reducible refine balloc ?_ | (with_reducible refine bset ?_ ?_; rotate_left; ((try dsimp only); omega)) | refine bkeep2 ?_ (by assumption) | with_reducible refine Below.drew ?_))⟩
set_option maxRecDepth 100000 in
theorem cut3_any (x y u v n : Int) (w : World) (h1 : vr x y u v = true) (h2 : 0 ≤ n) :
    Calls Try.prog 58 #[.agg #[.int .i64 (x), .int .i64 (y), .int .i64 (u), .int .i64 (v)], .int .i64 3, .int .i64 n] w fun e w' => e = .returned (.tuple #[.agg #[.int .i64 (x + (u - mn n u)), .int .i64 (y), .int .i64 (mn n u), .int .i64 (v)], .agg #[.int .i64 (x), .int .i64 (y), .int .i64 (u - mn n u), .int .i64 (v)]]) ∧ Below w.heap.size w w' := by
  have i0 : ∀ w, (Instr.index 85 (.agg #[.func (.func 77) #[] #[], .func (.func 78) #[] #[], .func (.func 79) #[] #[], .func (.func 80) #[] #[]]) (.int .i64 3)).run Try.prog w = .ok (.func (.func 80) #[] #[]) w := fun _ => by kernel_rfl
  go_enter Try.func58, Try.ntmps58
  go_wp2_with fail
  refine wp_region_grow 8 2 (· < 8) (by kernel_rfl) (by kernel_rfl) rfl ?_
  iterate 8 (refine wpG_step (fun K hK => ?_); apply Exists.intro; refine ⟨.inl ⟨rfl, fun w' hw' => ?_⟩, ?_⟩; (focus ((obtain ⟨hc, hf⟩ := bcell hw'.out); (have hcS := bcellS hw'.out); go_simp <;> first | rfl | (go_at_call 70; exact cutters_any _) | (go_at_call 80; exact cutRight_any x y u v n _ h1 h2))); (go_simp; refine hK _ ?_; clear hK K))
  refine wpG_nil ?_
  refine wpK_tail (by kernel_rfl) (fun wt1 ht1 => ?_)
  obtain ⟨hct1, hft1⟩ := bcell ht1.out
  have kb0_0 : wt1.cell? ⟨w.heap.size + 1, 0, none⟩ = some (.int .i64 (0)) := by go_simp
  have kg0_0 : wt1.frozen? ⟨w.heap.size + 1, 0, none⟩ = false := by go_simp
  have kb0_1 : wt1.cell? ⟨w.heap.size + 1, 1, none⟩ = some (.int .i64 (0)) := by go_simp
  have kg0_1 : wt1.frozen? ⟨w.heap.size + 1, 1, none⟩ = false := by go_simp
  have kb0_2 : wt1.cell? ⟨w.heap.size + 1, 2, none⟩ = some (.int .i64 (0)) := by go_simp
  have kg0_2 : wt1.frozen? ⟨w.heap.size + 1, 2, none⟩ = false := by go_simp
  have kb0_3 : wt1.cell? ⟨w.heap.size + 1, 3, none⟩ = some (.int .i64 (0)) := by go_simp
  have kg0_3 : wt1.frozen? ⟨w.heap.size + 1, 3, none⟩ = false := by go_simp
  have kb1_0 : wt1.cell? ⟨w.heap.size + 1 + 1, 0, none⟩ = some (.int .i64 (0)) := by go_simp
  have kg1_0 : wt1.frozen? ⟨w.heap.size + 1 + 1, 0, none⟩ = false := by go_simp
  have kb1_1 : wt1.cell? ⟨w.heap.size + 1 + 1, 1, none⟩ = some (.int .i64 (0)) := by go_simp
  have kg1_1 : wt1.frozen? ⟨w.heap.size + 1 + 1, 1, none⟩ = false := by go_simp
  have kb1_2 : wt1.cell? ⟨w.heap.size + 1 + 1, 2, none⟩ = some (.int .i64 (0)) := by go_simp
  have kg1_2 : wt1.frozen? ⟨w.heap.size + 1 + 1, 2, none⟩ = false := by go_simp
  have kb1_3 : wt1.cell? ⟨w.heap.size + 1 + 1, 3, none⟩ = some (.int .i64 (0)) := by go_simp
  have kg1_3 : wt1.frozen? ⟨w.heap.size + 1 + 1, 3, none⟩ = false := by go_simp
  clear hct1 hft1
  refine wpAny_one (i := 8) (by kernel_rfl) rfl rfl ?_
  go_simp
  refine wpAny_one (i := 9) (by kernel_rfl) rfl rfl ?_
  go_simp
  refine wpAny_end (by kernel_rfl) ?_
  have XA := box4 (w := wt1) (b := w.heap.size + 1) (.int .i64 (x + (u - mn n u))) (.int .i64 (y)) (.int .i64 (mn n u)) (.int .i64 (v)) kb0_0 kb0_1 kb0_2 kb0_3
  have XB := box4 (b := w.heap.size + 1 + 1) (.int .i64 (x)) (.int .i64 (y)) (.int .i64 (u - mn n u)) (.int .i64 (v)) ((XA.2.2.2.2 (w.heap.size + 1 + 1) 0 (by omega)).trans kb1_0) ((XA.2.2.2.2 (w.heap.size + 1 + 1) 1 (by omega)).trans kb1_1) ((XA.2.2.2.2 (w.heap.size + 1 + 1) 2 (by omega)).trans kb1_2) ((XA.2.2.2.2 (w.heap.size + 1 + 1) 3 (by omega)).trans kb1_3)
  refine NoPan.gen (fun wf => Below w.heap.size w wf ∧ wf.cell? ⟨w.heap.size + 1, 0, none⟩ = some (.int .i64 (x + (u - mn n u))) ∧ wf.cell? ⟨w.heap.size + 1, 1, none⟩ = some (.int .i64 (y)) ∧ wf.cell? ⟨w.heap.size + 1, 2, none⟩ = some (.int .i64 (mn n u)) ∧ wf.cell? ⟨w.heap.size + 1, 3, none⟩ = some (.int .i64 (v)) ∧ wf.cell? ⟨w.heap.size + 1 + 1, 0, none⟩ = some (.int .i64 (x)) ∧ wf.cell? ⟨w.heap.size + 1 + 1, 1, none⟩ = some (.int .i64 (y)) ∧ wf.cell? ⟨w.heap.size + 1 + 1, 2, none⟩ = some (.int .i64 (u - mn n u)) ∧ wf.cell? ⟨w.heap.size + 1 + 1, 3, none⟩ = some (.int .i64 (v))) ⟨(by repeat (first | with_reducible exact Below.refl _ _ | with_reducible assumption | with_reducible refine balloc ?_ | (with_reducible refine bset ?_ ?_; rotate_left; ((try dsimp only); omega)) | refine bkeep2 ?_ (by assumption) | with_reducible refine Below.drew ?_)), (XB.2.2.2.2 (w.heap.size + 1) 0 (by omega)).trans XA.1, (XB.2.2.2.2 (w.heap.size + 1) 1 (by omega)).trans XA.2.1, (XB.2.2.2.2 (w.heap.size + 1) 2 (by omega)).trans XA.2.2.1, (XB.2.2.2.2 (w.heap.size + 1) 3 (by omega)).trans XA.2.2.2.1, XB.1, XB.2.1, XB.2.2.1, XB.2.2.2.1⟩ (fun wf hwf => ?_)
  clear XA XB kb0_0 kb0_1 kb0_2 kb0_3 kb1_0 kb1_1 kb1_2 kb1_3 kg0_0 kg0_1 kg0_2 kg0_3 kg1_0 kg1_1 kg1_2 kg1_3
  obtain ⟨hBf, z0, z1, z2, z3, z4, z5, z6, z7⟩ := hwf
  go_wp2
  exact bodyPost_ret (v := .tuple #[.agg #[.int .i64 (x + (u - mn n u)), .int .i64 (y), .int .i64 (mn n u), .int .i64 (v)], .agg #[.int .i64 (x), .int .i64 (y), .int .i64 (u - mn n u), .int .i64 (v)]]) (by simp only [results, Try.results58]; go_simp) rfl ⟨rfl, (by repeat (first | with_reducible exact Below.refl _ _ | with_reducible assumption | with_reducible refine balloc ?_ | (with_reducible refine bset ?_ ?_; rotate_left; ((try dsimp only); omega)) | refine bkeep2 ?_ (by assumption) | with_reducible refine Below.drew ?_))⟩
end Go.Proofs.Ytnkoeekgdehhiaa
