import Derived.Test.YtjdjahckdgbkbabQ03
import Derived.Laws.EntriesVeiled
section
namespace Go.Proofs.Ytjdjahckdgbkbab
open Go.RowKit
set_option linter.unusedVariables false
attribute [local go_sem 5000] run_mx run_mn run_eqlR run_neqR
attribute [local go_sem] growUpon_value growUpon_skip growUpon_enter
set_option maxHeartbeats 1000000
theorem cutters_any (w : World) : Calls Try.prog 86 #[] w fun e w' => e = .returned (.agg #[.func (.func 88) #[] #[], .func (.func 89) #[] #[], .func (.func 90) #[] #[], .func (.func 91) #[] #[]]) ∧ Below w.heap.size w w' := by
  go_enter Try.func86, Try.ntmps86
  go_wp2
  exact bodyPost_ret (v := .agg #[.func (.func 88) #[] #[], .func (.func 89) #[] #[], .func (.func 90) #[] #[], .func (.func 91) #[] #[]]) (by simp only [results, Try.results86]; go_simp) rfl ⟨rfl, (by repeat (first | with_reducible exact Below.refl _ _ | with_reducible assumption | with_reducible refine balloc ?_ | (with_reducible refine bset ?_ ?_; rotate_left; ((try dsimp only); omega)) | refine bkeep2 ?_ (by assumption) | with_reducible refine Below.drew ?_))⟩
set_option maxRecDepth 100000 in
theorem cut0_any (x y u v n : Int) (w : World) (h1 : vr x y u v = true) (h2 : 0 ≤ n) :
    Calls Try.prog 69 #[.agg #[.int .i64 (x), .int .i64 (y), .int .i64 (u), .int .i64 (v)], .int .i64 0, .int .i64 n] w fun e w' => e = .returned (.tuple #[.agg #[.int .i64 (x), .int .i64 (y), .int .i64 (u), .int .i64 (mn n v)], .agg #[.int .i64 (x), .int .i64 (y + mn n v), .int .i64 (u), .int .i64 (v - mn n v)]]) ∧ Below w.heap.size w w' := by
  have i0 : ∀ w, (Instr.index 93 (.agg #[.func (.func 88) #[] #[], .func (.func 89) #[] #[], .func (.func 90) #[] #[], .func (.func 91) #[] #[]]) (.int .i64 0)).run Try.prog w = .ok (.func (.func 88) #[] #[]) w := fun _ => by kernel_rfl
  go_enter Try.func69, Try.ntmps69
  go_wp2_with fail
  refine wp_region_grow 8 2 (· < 8) (by kernel_rfl) (by kernel_rfl) rfl ?_
  iterate 8 (refine wpG_step (fun K hK => ?_); apply Exists.intro; refine ⟨.inl ⟨rfl, fun w' hw' => ?_⟩, ?_⟩; (focus ((obtain ⟨hc, hf⟩ := bcell hw'.out); (have hcS := bcellS hw'.out); go_simp <;> first | rfl | (go_at_call 86; exact cutters_any _) | (go_at_call 88; exact cutTop_any x y u v n (mn n v) (v - mn n v) _ h1 h2 rfl rfl))); (go_simp; refine hK _ ?_; clear hK K))
  refine wpG_nil ?_
  refine wpK_tail (by kernel_rfl) (fun wt1 ht1 => ?_)
  obtain ⟨hct1, hft1⟩ := bcell ht1.out
  have kb0_0 : wt1.cell? ⟨w.heap.size + 1, 0, none⟩ = some (.int .i64 (0)) := by go_simp
  have kg0_0 : wt1.frozen? ⟨w.heap.size + 1, 0, none⟩ = false := by go_simp
  have kb0_1 : wt1.cell? ⟨w.heap.size + 1, 1, none⟩ = some (.int .i64 (0)) := by go_simp
  have kg0_1 : wt1.frozen? ⟨w.heap.size + 1, 1, none⟩ = false := by go_simp
  have kb0_2 : wt1.cell? ⟨w.heap.size + 1, 2, none⟩ = some (.int .i64 (0)) := by go_simp
  have kg0_2 : wt1.frozen? ⟨w.heap.size + 1, 2, none⟩ = false := by go_simp
  have kb0_3 : wt1.cell? ⟨w.heap.size + 1, 3, none⟩ = some (.int .i64 (0)) := by go_simp
  have kg0_3 : wt1.frozen? ⟨w.heap.size + 1, 3, none⟩ = false := by go_simp
  have kb1_0 : wt1.cell? ⟨w.heap.size + 1 + 1, 0, none⟩ = some (.int .i64 (0)) := by go_simp
  have kg1_0 : wt1.frozen? ⟨w.heap.size + 1 + 1, 0, none⟩ = false := by go_simp
  have kb1_1 : wt1.cell? ⟨w.heap.size + 1 + 1, 1, none⟩ = some (.int .i64 (0)) := by go_simp
  have kg1_1 : wt1.frozen? ⟨w.heap.size + 1 + 1, 1, none⟩ = false := by go_simp
  have kb1_2 : wt1.cell? ⟨w.heap.size + 1 + 1, 2, none⟩ = some (.int .i64 (0)) := by go_simp
  have kg1_2 : wt1.frozen? ⟨w.heap.size + 1 + 1, 2, none⟩ = false := by go_simp
  have kb1_3 : wt1.cell? ⟨w.heap.size + 1 + 1, 3, none⟩ = some (.int .i64 (0)) := by go_simp
  have kg1_3 : wt1.frozen? ⟨w.heap.size + 1 + 1, 3, none⟩ = false := by go_simp
  clear hct1 hft1
  refine wpAny_one (i := 8) (by kernel_rfl) rfl rfl ?_
  go_simp
  refine wpAny_one (i := 9) (by kernel_rfl) rfl rfl ?_
  go_simp
  refine wpAny_end (by kernel_rfl) ?_
  have XA := box4 (w := wt1) (b := w.heap.size + 1) (.int .i64 (x)) (.int .i64 (y)) (.int .i64 (u)) (.int .i64 (mn n v)) kb0_0 kb0_1 kb0_2 kb0_3
  have XB := box4 (b := w.heap.size + 1 + 1) (.int .i64 (x)) (.int .i64 (y + mn n v)) (.int .i64 (u)) (.int .i64 (v - mn n v)) ((XA.2.2.2.2 (w.heap.size + 1 + 1) 0 (by omega)).trans kb1_0) ((XA.2.2.2.2 (w.heap.size + 1 + 1) 1 (by omega)).trans kb1_1) ((XA.2.2.2.2 (w.heap.size + 1 + 1) 2 (by omega)).trans kb1_2) ((XA.2.2.2.2 (w.heap.size + 1 + 1) 3 (by omega)).trans kb1_3)
  refine NoPan.gen (fun wf => Below w.heap.size w wf ∧ wf.cell? ⟨w.heap.size + 1, 0, none⟩ = some (.int .i64 (x)) ∧ wf.cell? ⟨w.heap.size + 1, 1, none⟩ = some (.int .i64 (y)) ∧ wf.cell? ⟨w.heap.size + 1, 2, none⟩ = some (.int .i64 (u)) ∧ wf.cell? ⟨w.heap.size + 1, 3, none⟩ = some (.int .i64 (mn n v)) ∧ wf.cell? ⟨w.heap.size + 1 + 1, 0, none⟩ = some (.int .i64 (x)) ∧ wf.cell? ⟨w.heap.size + 1 + 1, 1, none⟩ = some (.int .i64 (y + mn n v)) ∧ wf.cell? ⟨w.heap.size + 1 + 1, 2, none⟩ = some (.int .i64 (u)) ∧ wf.cell? ⟨w.heap.size + 1 + 1, 3, none⟩ = some (.int .i64 (v - mn n v))) ⟨(by repeat (first | with_reducible exact Below.refl _ _ | with_reducible assumption | with_reducible refine balloc ?_ | (with_reducible refine bset ?_ ?_; rotate_left; ((try dsimp only); omega)) | refine bkeep2 ?_ (by assumption) | with_reducible refine Below.drew ?_)), (XB.2.2.2.2 (w.heap.size + 1) 0 (by omega)).trans XA.1, (XB.2.2.2.2 (w.heap.size + 1) 1 (by omega)).trans XA.2.1, (XB.2.2.2.2 (w.heap.size + 1) 2 (by omega)).trans XA.2.2.1, (XB.2.2.2.2 (w.heap.size + 1) 3 (by omega)).trans XA.2.2.2.1, XB.1, XB.2.1, XB.2.2.1, XB.2.2.2.1⟩ (fun wf hwf => ?_)
  clear XA XB kb0_0 kb0_1 kb0_2 kb0_3 kb1_0 kb1_1 kb1_2 kb1_3 kg0_0 kg0_1 kg0_2 kg0_3 kg1_0 kg1_1 kg1_2 kg1_3
  obtain ⟨hBf, z0, z1, z2, z3, z4, z5, z6, z7⟩ := hwf
  go_wp2
  exact bodyPost_ret (v := .tuple #[.agg #[.int .i64 (x), .int .i64 (y), .int .i64 (u), .int .i64 (mn n v)], .agg #[.int .i64 (x), .int .i64 (y + mn n v), .int .i64 (u), .int .i64 (v - mn n v)]]) (by simp only [results, Try.results69]; go_simp) rfl ⟨rfl, (by repeat (first | with_reducible exact Below.refl _ _ | with_reducible assumption | with_reducible refine balloc ?_ | (with_reducible refine bset ?_ ?_; rotate_left; ((try dsimp only); omega)) | refine bkeep2 ?_ (by assumption) | with_reducible refine Below.drew ?_))⟩
set_option maxRecDepth 100000 in
theorem cut1_any (x y u v n : Int) (w : World) (h1 : vr x y u v = true) (h2 : 0 ≤ n) :
    Calls Try.prog 69 #[.agg #[.int .i64 (x), .int .i64 (y), .int .i64 (u), .int .i64 (v)], .int .i64 1, .int .i64 n] w fun e w' => e = .returned (.tuple #[.agg #[.int .i64 (x), .int .i64 (y + (v - mn n v)), .int .i64 (u), .int .i64 (mn n v)], .agg #[.int .i64 (x), .int .i64 (y), .int .i64 (u), .int .i64 (v - mn n v)]]) ∧ Below w.heap.size w w' := by
  have i0 : ∀ w, (Instr.index 93 (.agg #[.func (.func 88) #[] #[], .func (.func 89) #[] #[], .func (.func 90) #[] #[], .func (.func 91) #[] #[]]) (.int .i64 1)).run Try.prog w = .ok (.func (.func 89) #[] #[]) w := fun _ => by kernel_rfl
  go_enter Try.func69, Try.ntmps69
  go_wp2_with fail
  refine wp_region_grow 8 2 (· < 8) (by kernel_rfl) (by kernel_rfl) rfl ?_
  iterate 8 (refine wpG_step (fun K hK => ?_); apply Exists.intro; refine ⟨.inl ⟨rfl, fun w' hw' => ?_⟩, ?_⟩; (focus ((obtain ⟨hc, hf⟩ := bcell hw'.out); (have hcS := bcellS hw'.out); go_simp <;> first | rfl | (go_at_call 86; exact cutters_any _) | (go_at_call 89; exact cutBottom_any x y u v n _ h1 h2))); (go_simp; refine hK _ ?_; clear hK K))
  refine wpG_nil ?_
  refine wpK_tail (by kernel_rfl) (fun wt1 ht1 => ?_)
  obtain ⟨hct1, hft1⟩ := bcell ht1.out
  have kb0_0 : wt1.cell? ⟨w.heap.size + 1, 0, none⟩ = some (.int .i64 (0)) := by go_simp
  have kg0_0 : wt1.frozen? ⟨w.heap.size + 1, 0, none⟩ = false := by go_simp
  have kb0_1 : wt1.cell? ⟨w.heap.size + 1, 1, none⟩ = some (.int .i64 (0)) := by go_simp
  have kg0_1 : wt1.frozen? ⟨w.heap.size + 1, 1, none⟩ = false := by go_simp
  have kb0_2 : wt1.cell? ⟨w.heap.size + 1, 2, none⟩ = some (.int .i64 (0)) := by go_simp
  have kg0_2 : wt1.frozen? ⟨w.heap.size + 1, 2, none⟩ = false := by go_simp
  have kb0_3 : wt1.cell? ⟨w.heap.size + 1, 3, none⟩ = some (.int .i64 (0)) := by go_simp
  have kg0_3 : wt1.frozen? ⟨w.heap.size + 1, 3, none⟩ = false := by go_simp
  have kb1_0 : wt1.cell? ⟨w.heap.size + 1 + 1, 0, none⟩ = some (.int .i64 (0)) := by go_simp
  have kg1_0 : wt1.frozen? ⟨w.heap.size + 1 + 1, 0, none⟩ = false := by go_simp
  have kb1_1 : wt1.cell? ⟨w.heap.size + 1 + 1, 1, none⟩ = some (.int .i64 (0)) := by go_simp
  have kg1_1 : wt1.frozen? ⟨w.heap.size + 1 + 1, 1, none⟩ = false := by go_simp
  have kb1_2 : wt1.cell? ⟨w.heap.size + 1 + 1, 2, none⟩ = some (.int .i64 (0)) := by go_simp
  have kg1_2 : wt1.frozen? ⟨w.heap.size + 1 + 1, 2, none⟩ = false := by go_simp
  have kb1_3 : wt1.cell? ⟨w.heap.size + 1 + 1, 3, none⟩ = some (.int .i64 (0)) := by go_simp
  have kg1_3 : wt1.frozen? ⟨w.heap.size + 1 + 1, 3, none⟩ = false := by go_simp
  clear hct1 hft1
  refine wpAny_one (i := 8) (by kernel_rfl) rfl rfl ?_
  go_simp
  refine wpAny_one (i := 9) (by kernel_rfl) rfl rfl ?_
  go_simp
  refine wpAny_end (by kernel_rfl) ?_
  have XA := box4 (w := wt1) (b := w.heap.size + 1) (.int .i64 (x)) (.int .i64 (y + (v - mn n v))) (.int .i64 (u)) (.int .i64 (mn n v)) kb0_0 kb0_1 kb0_2 kb0_3
  have XB := box4 (b := w.heap.size + 1 + 1) (.int .i64 (x)) (.int .i64 (y)) (.int .i64 (u)) (.int .i64 (v - mn n v)) ((XA.2.2.2.2 (w.heap.size + 1 + 1) 0 (by omega)).trans kb1_0) ((XA.2.2.2.2 (w.heap.size + 1 + 1) 1 (by omega)).trans kb1_1) ((XA.2.2.2.2 (w.heap.size + 1 + 1) 2 (by omega)).trans kb1_2) ((XA.2.2.2.2 (w.heap.size + 1 + 1) 3 (by omega)).trans kb1_3)
  refine NoPan.gen (fun wf => Below w.heap.size w wf ∧ wf.cell? ⟨w.heap.size + 1, 0, none⟩ = some (.int .i64 (x)) ∧ wf.cell? ⟨w.heap.size + 1, 1, none⟩ = some (.int .i64 (y + (v - mn n v))) ∧ wf.cell? ⟨w.heap.size + 1, 2, none⟩ = some (.int .i64 (u)) ∧ wf.cell? ⟨w.heap.size + 1, 3, none⟩ = some (.int .i64 (mn n v)) ∧ wf.cell? ⟨w.heap.size + 1 + 1, 0, none⟩ = some (.int .i64 (x)) ∧ wf.cell? ⟨w.heap.size + 1 + 1, 1, none⟩ = some (.int .i64 (y)) ∧ wf.cell? ⟨w.heap.size + 1 + 1, 2, none⟩ = some (.int .i64 (u)) ∧ wf.cell? ⟨w.heap.size + 1 + 1, 3, none⟩ = some (.int .i64 (v - mn n v))) ⟨(by repeat (first | with_reducible exact Below.refl _ _ | with_reducible assumption | with_reducible refine balloc ?_ | (with_reducible refine bset ?_ ?_; rotate_left; ((try dsimp only); omega)) | refine bkeep2 ?_ (by assumption) | with_reducible refine Below.drew ?_)), (XB.2.2.2.2 (w.heap.size + 1) 0 (by omega)).trans XA.1, (XB.2.2.2.2 (w.heap.size + 1) 1 (by omega)).trans XA.2.1, (XB.2.2.2.2 (w.heap.size + 1) 2 (by omega)).trans XA.2.2.1, (XB.2.2.2.2 (w.heap.size + 1) 3 (by omega)).trans XA.2.2.2.1, XB.1, XB.2.1, XB.2.2.1, XB.2.2.2.1⟩ (fun wf hwf => ?_)
  clear XA XB kb0_0 kb0_1 kb0_2 kb0_3 kb1_0 kb1_1 kb1_2 kb1_3 kg0_0 kg0_1 kg0_2 kg0_3 kg1_0 kg1_1 kg1_2 kg1_3
  obtain ⟨hBf, z0, z1, z2, z3, z4, z5, z6, z7⟩ := hwf
  go_wp2
  exact bodyPost_ret (v := .tuple #[.agg #[.int .i64 (x), .int .i64 (y + (v - mn n v)), .int .i64 (u), .int .i64 (mn n v)], .agg #[.int .i64 (x), .int .i64 (y), .int .i64 (u), .int .i64 (v - mn n v)]]) (by simp only [results, Try.results69]; go_simp) rfl ⟨rfl, (by repeat (first | with_reducible exact Below.refl _ _ | with_reducible assumption | with_reducible refine balloc ?_ | (with_reducible refine bset ?_ ?_; rotate_left; ((try dsimp only); omega)) | refine bkeep2 ?_ (by assumption) | with_reducible refine Below.drew ?_))⟩
set_option maxRecDepth 100000 in
theorem cut2_any (x y u v n : Int) (w : World) (h1 : vr x y u v = true) (h2 : 0 ≤ n) :
    Calls Try.prog 69 #[.agg #[.int .i64 (x), .int .i64 (y), .int .i64 (u), .int .i64 (v)], .int .i64 2, .int .i64 n] w fun e w' => e = .returned (.tuple #[.agg #[.int .i64 (x), .int .i64 (y), .int .i64 (mn n u), .int .i64 (v)], .agg #[.int .i64 (x + mn n u), .int .i64 (y), .int .i64 (u - mn n u), .int .i64 (v)]]) ∧ Below w.heap.size w w' := by
  have i0 : ∀ w, (Instr.index 93 (.agg #[.func (.func 88) #[] #[], .func (.func 89) #[] #[], .func (.func 90) #[] #[], .func (.func 91) #[] #[]]) (.int .i64 2)).run Try.prog w = .ok (.func (.func 90) #[] #[]) w := fun _ => by kernel_rfl
  go_enter Try.func69, Try.ntmps69
  go_wp2_with fail
  refine wp_region_grow 8 2 (· < 8) (by kernel_rfl) (by kernel_rfl) rfl ?_
  iterate 8 (refine wpG_step (fun K hK => ?_); apply Exists.intro; refine ⟨.inl ⟨rfl, fun w' hw' => ?_⟩, ?_⟩; (focus ((obtain ⟨hc, hf⟩ := bcell hw'.out); (have hcS := bcellS hw'.out); go_simp <;> first | rfl | (go_at_call 86; exact cutters_any _) | (go_at_call 90; exact cutLeft_any x y u v n (mn n u) (u - mn n u) _ h1 h2 rfl rfl))); (go_simp; refine hK _ ?_; clear hK K))
  refine wpG_nil ?_
  refine wpK_tail (by kernel_rfl) (fun wt1 ht1 => ?_)
  obtain ⟨hct1, hft1⟩ := bcell ht1.out
  have kb0_0 : wt1.cell? ⟨w.heap.size + 1, 0, none⟩ = some (.int .i64 (0)) := by go_simp
  have kg0_0 : wt1.frozen? ⟨w.heap.size + 1, 0, none⟩ = false := by go_simp
  have kb0_1 : wt1.cell? ⟨w.heap.size + 1, 1, none⟩ = some (.int .i64 (0)) := by go_simp
  have kg0_1 : wt1.frozen? ⟨w.heap.size + 1, 1, none⟩ = false := by go_simp
  have kb0_2 : wt1.cell? ⟨w.heap.size + 1, 2, none⟩ = some (.int .i64 (0)) := by go_simp
  have kg0_2 : wt1.frozen? ⟨w.heap.size + 1, 2, none⟩ = false := by go_simp
  have kb0_3 : wt1.cell? ⟨w.heap.size + 1, 3, none⟩ = some (.int .i64 (0)) := by go_simp
  have kg0_3 : wt1.frozen? ⟨w.heap.size + 1, 3, none⟩ = false := by go_simp
  have kb1_0 : wt1.cell? ⟨w.heap.size + 1 + 1, 0, none⟩ = some (.int .i64 (0)) := by go_simp
  have kg1_0 : wt1.frozen? ⟨w.heap.size + 1 + 1, 0, none⟩ = false := by go_simp
  have kb1_1 : wt1.cell? ⟨w.heap.size + 1 + 1, 1, none⟩ = some (.int .i64 (0)) := by go_simp
  have kg1_1 : wt1.frozen? ⟨w.heap.size + 1 + 1, 1, none⟩ = false := by go_simp
  have kb1_2 : wt1.cell? ⟨w.heap.size + 1 + 1, 2, none⟩ = some (.int .i64 (0)) := by go_simp
  have kg1_2 : wt1.frozen? ⟨w.heap.size + 1 + 1, 2, none⟩ = false := by go_simp
  have kb1_3 : wt1.cell? ⟨w.heap.size + 1 + 1, 3, none⟩ = some (.int .i64 (0)) := by go_simp
  have kg1_3 : wt1.frozen? ⟨w.heap.size + 1 + 1, 3, none⟩ = false := by go_simp
  clear hct1 hft1
  refine wpAny_one (i := 8) (by kernel_rfl) rfl rfl ?_
  go_simp
  refine wpAny_one (i := 9) (by kernel_rfl) rfl rfl ?_
  go_simp
  refine wpAny_end (by kernel_rfl) ?_
  have XA := box4 (w := wt1) (b := w.heap.size + 1) (.int .i64 (x)) (.int .i64 (y)) (.int .i64 (mn n u)) (.int .i64 (v)) kb0_0 kb0_1 kb0_2 kb0_3
  have XB := box4 (b := w.heap.size + 1 + 1) (.int .i64 (x + mn n u)) (.int .i64 (y)) (.int .i64 (u - mn n u)) (.int .i64 (v)) ((XA.2.2.2.2 (w.heap.size + 1 + 1) 0 (by omega)).trans kb1_0) ((XA.2.2.2.2 (w.heap.size + 1 + 1) 1 (by omega)).trans kb1_1) ((XA.2.2.2.2 (w.heap.size + 1 + 1) 2 (by omega)).trans kb1_2) ((XA.2.2.2.2 (w.heap.size + 1 + 1) 3 (by omega)).trans kb1_3)
  refine NoPan.gen (fun wf => Below w.heap.size w wf ∧ wf.cell? ⟨w.heap.size + 1, 0, none⟩ = some (.int .i64 (x)) ∧ wf.cell? ⟨w.heap.size + 1, 1, none⟩ = some (.int .i64 (y)) ∧ wf.cell? ⟨w.heap.size + 1, 2, none⟩ = some (.int .i64 (mn n u)) ∧ wf.cell? ⟨w.heap.size + 1, 3, none⟩ = some (.int .i64 (v)) ∧ wf.cell? ⟨w.heap.size + 1 + 1, 0, none⟩ = some (.int .i64 (x + mn n u)) ∧ wf.cell? ⟨w.heap.size + 1 + 1, 1, none⟩ = some (.int .i64 (y)) ∧ wf.cell? ⟨w.heap.size + 1 + 1, 2, none⟩ = some (.int .i64 (u - mn n u)) ∧ wf.cell? ⟨w.heap.size + 1 + 1, 3, none⟩ = some (.int .i64 (v))) ⟨(by repeat (first | with_reducible exact Below.refl _ _ | with_reducible assumption | with_reducible refine balloc ?_ | (with_reducible refine bset ?_ ?_; rotate_left; ((try dsimp only); omega)) | refine bkeep2 ?_ (by assumption) | with_reducible refine Below.drew ?_)), (XB.2.2.2.2 (w.heap.size + 1) 0 (by omega)).trans XA.1, (XB.2.2.2.2 (w.heap.size + 1) 1 (by omega)).trans XA.2.1, (XB.2.2.2.2 (w.heap.size + 1) 2 (by omega)).trans XA.2.2.1, (XB.2.2.2.2 (w.heap.size + 1) 3 (by omega)).trans XA.2.2.2.1, XB.1, XB.2.1, XB.2.2.1, XB.2.2.2.1⟩ (fun wf hwf => ?_)
  clear XA XB kb0_0 kb0_1 kb0_2 kb0_3 kb1_0 kb1_1 kb1_2 kb1_3 kg0_0 kg0_1 kg0_2 kg0_3 kg1_0 kg1_1 kg1_2 kg1_3
  obtain ⟨hBf, z0, z1, z2, z3, z4, z5, z6, z7⟩ := hwf
  go_wp2
  exact bodyPost_ret (v := .tuple #[.agg #[.int .i64 (x), .int .i64 (y), .int .i64 (mn n u), .int .i64 (v)], .agg #[.int .i64 (x + mn n u), .int .i64 (y), .int .i64 (u - mn n u), .int .i64 (v)]]) (by simp only [results, Try.results69]; go_simp) rfl ⟨rfl, (by repeat (first | with_reducible exact Below.refl _ _ | with_reducible assumption | with_reducible refine balloc ?_ | (with_reducible refine bset ?_ ?_; rotate_left; ((try dsimp only); omega)) | refine bkeep2 ?_ (by assumption) | with_reducible refine Below.drew ?_))⟩
set_option maxRecDepth 100000 in
theorem cut3_any (x y u v n : Int) (w : World) (h1 : vr x y u v = true) (h2 : 0 ≤ n) :
    Calls Try.prog 69 #[.agg #[.int .i64 (x), .int .i64 (y), .int .i64 (u), .int .i64 (v)], .int .i64 3, .int .i64 n] w fun e w' => e = .returned (.tuple #[.agg #[.int .i64 (x + (u - mn n u)), .int .i64 (y), .int .i64 (mn n u), .int .i64 (v)], .agg #[.int .i64 (x), .int .i64 (y), .int .i64 (u - mn n u), .int .i64 (v)]]) ∧ Below w.heap.size w w' := by
  have i0 : ∀ w, (Instr.index 93 (.agg #[.func (.func 88) #[] #[], .func (.func 89) #[] #[], .func (.func 90) #[] #[], .func (.func 91) #[] #[]]) (.int .i64 3)).run Try.prog w = .ok (.func (.func 91) #[] #[]) w := fun _ => by kernel_rfl
  go_enter Try.func69, Try.ntmps69
  go_wp2_with fail
  refine wp_region_grow 8 2 (· < 8) (by kernel_rfl) (by kernel_rfl) rfl ?_
  iterate 8 (refine wpG_step (fun K hK => ?_); apply Exists.intro; refine ⟨.inl ⟨rfl, fun w' hw' => ?_⟩, ?_⟩; (focus ((obtain ⟨hc, hf⟩ := bcell hw'.out); (have hcS := bcellS hw'.out); go_simp <;> first | rfl | (go_at_call 86; exact cutters_any _) | (go_at_call 91; exact cutRight_any x y u v n _ h1 h2))); (go_simp; refine hK _ ?_; clear hK K))
  refine wpG_nil ?_
  refine wpK_tail (by kernel_rfl) (fun wt1 ht1 => ?_)
  obtain ⟨hct1, hft1⟩ := bcell ht1.out
  have kb0_0 : wt1.cell? ⟨w.heap.size + 1, 0, none⟩ = some (.int .i64 (0)) := by go_simp
  have kg0_0 : wt1.frozen? ⟨w.heap.size + 1, 0, none⟩ = false := by go_simp
  have kb0_1 : wt1.cell? ⟨w.heap.size + 1, 1, none⟩ = some (.int .i64 (0)) := by go_simp
  have kg0_1 : wt1.frozen? ⟨w.heap.size + 1, 1, none⟩ = false := by go_simp
  have kb0_2 : wt1.cell? ⟨w.heap.size + 1, 2, none⟩ = some (.int .i64 (0)) := by go_simp
  have kg0_2 : wt1.frozen? ⟨w.heap.size + 1, 2, none⟩ = false := by go_simp
  have kb0_3 : wt1.cell? ⟨w.heap.size + 1, 3, none⟩ = some (.int .i64 (0)) := by go_simp
  have kg0_3 : wt1.frozen? ⟨w.heap.size + 1, 3, none⟩ = false := by go_simp
  have kb1_0 : wt1.cell? ⟨w.heap.size + 1 + 1, 0, none⟩ = some (.int .i64 (0)) := by go_simp
  have kg1_0 : wt1.frozen? ⟨w.heap.size + 1 + 1, 0, none⟩ = false := by go_simp
  have kb1_1 : wt1.cell? ⟨w.heap.size + 1 + 1, 1, none⟩ = some (.int .i64 (0)) := by go_simp
  have kg1_1 : wt1.frozen? ⟨w.heap.size + 1 + 1, 1, none⟩ = false := by go_simp
  have kb1_2 : wt1.cell? ⟨w.heap.size + 1 + 1, 2, none⟩ = some (.int .i64 (0)) := by go_simp
  have kg1_2 : wt1.frozen? ⟨w.heap.size + 1 + 1, 2, none⟩ = false := by go_simp
  have kb1_3 : wt1.cell? ⟨w.heap.size + 1 + 1, 3, none⟩ = some (.int .i64 (0)) := by go_simp
  have kg1_3 : wt1.frozen? ⟨w.heap.size + 1 + 1, 3, none⟩ = false := by go_simp
  clear hct1 hft1
  refine wpAny_one (i := 8) (by kernel_rfl) rfl rfl ?_
  go_simp
  refine wpAny_one (i := 9) (by kernel_rfl) rfl rfl ?_
  go_simp
  refine wpAny_end (by kernel_rfl) ?_
  have XA := box4 (w := wt1) (b := w.heap.size + 1) (.int .i64 (x + (u - mn n u))) (.int .i64 (y)) (.int .i64 (mn n u)) (.int .i64 (v)) kb0_0 kb0_1 kb0_2 kb0_3
  have XB := box4 (b := w.heap.size + 1 + 1) (.int .i64 (x)) (.int .i64 (y)) (.int .i64 (u - mn n u)) (.int .i64 (v)) ((XA.2.2.2.2 (w.heap.size + 1 + 1) 0 (by omega)).trans kb1_0) ((XA.2.2.2.2 (w.heap.size + 1 + 1) 1 (by omega)).trans kb1_1) ((XA.2.2.2.2 (w.heap.size + 1 + 1) 2 (by omega)).trans kb1_2) ((XA.2.2.2.2 (w.heap.size + 1 + 1) 3 (by omega)).trans kb1_3)
  refine NoPan.gen (fun wf => Below w.heap.size w wf ∧ wf.cell? ⟨w.heap.size + 1, 0, none⟩ = some (.int .i64 (x + (u - mn n u))) ∧ wf.cell? ⟨w.heap.size + 1, 1, none⟩ = some (.int .i64 (y)) ∧ wf.cell? ⟨w.heap.size + 1, 2, none⟩ = some (.int .i64 (mn n u)) ∧ wf.cell? ⟨w.heap.size + 1, 3, none⟩ = some (.int .i64 (v)) ∧ wf.cell? ⟨w.heap.size + 1 + 1, 0, none⟩ = some (.int .i64 (x)) ∧ wf.cell? ⟨w.heap.size + 1 + 1, 1, none⟩ = some (.int .i64 (y)) ∧ wf.cell? ⟨w.heap.size + 1 + 1, 2, none⟩ = some (.int .i64 (u - mn n u)) ∧ wf.cell? ⟨w.heap.size + 1 + 1, 3, none⟩ = some (.int .i64 (v))) ⟨(by repeat (first | with_reducible exact Below.refl _ _ | with_reducible assumption | with_reducible refine balloc ?_ | (with_reducible refine bset ?_ ?_; rotate_left; ((try dsimp only); omega)) | refine bkeep2 ?_ (by assumption) | with_reducible refine Below.drew ?_)), (XB.2.2.2.2 (w.heap.size + 1) 0 (by omega)).trans XA.1, (XB.2.2.2.2 (w.heap.size + 1) 1 (by omega)).trans XA.2.1, (XB.2.2.2.2 (w.heap.size + 1) 2 (by omega)).trans XA.2.2.1, (XB.2.2.2.2 (w.heap.size + 1) 3 (by omega)).trans XA.2.2.2.1, XB.1, XB.2.1, XB.2.2.1, XB.2.2.2.1⟩ (fun wf hwf => ?_)
  clear XA XB kb0_0 kb0_1 kb0_2 kb0_3 kb1_0 kb1_1 kb1_2 kb1_3 kg0_0 kg0_1 kg0_2 kg0_3 kg1_0 kg1_1 kg1_2 kg1_3
  obtain ⟨hBf, z0, z1, z2, z3, z4, z5, z6, z7⟩ := hwf
  go_wp2
  exact bodyPost_ret (v := .tuple #[.agg #[.int .i64 (x + (u - mn n u)), .int .i64 (y), .int .i64 (mn n u), .int .i64 (v)], .agg #[.int .i64 (x), .int .i64 (y), .int .i64 (u - mn n u), .int .i64 (v)]]) (by simp only [results, Try.results69]; go_simp) rfl ⟨rfl, (by repeat (first | with_reducible exact Below.refl _ _ | with_reducible assumption | with_reducible refine balloc ?_ | (with_reducible refine bset ?_ ?_; rotate_left; ((try dsimp only); omega)) | refine bkeep2 ?_ (by assumption) | with_reducible refine Below.drew ?_))⟩
end Go.Proofs.Ytjdjahckdgbkbab
end
section
namespace Go.Proofs.Ytjdjahckdgbkbab
open Go.RowKit
set_option linter.unusedVariables false
set_option maxHeartbeats 1000000
attribute [local go_sem 5000] run_mx run_mn
attribute [local go_sem] growUpon_value growUpon_skip growUpon_enter
theorem PV.drop {w : World} {L : List Pk} {b off k : Nat} (h : PS w b off L) (hb : b < w.heap.size) : PV w (some ⟨b, off + k * 9, none⟩) (L.drop k) :=
  ⟨fun _ => ⟨b, off + k * 9, rfl, hb, fun i p hp => by
    rw [List.getElem?_drop] at hp
    have := h (k + i) p hp
    rwa [show off + (k + i) * 9 = off + k * 9 + i * 9 from by rw [Nat.add_mul, Nat.add_assoc]] at this⟩⟩
theorem cut_v (z : Rc) (s n : Int) (w : World) (hz : z.ok = true) (hs : 0 ≤ s) (hs' : s ≤ 3) (hn : 0 ≤ n) :
    Calls Try.prog 69 #[.agg #[.int .i64 (z.x), .int .i64 (z.y), .int .i64 (z.u), .int .i64 (z.v)], .int .i64 s, .int .i64 n] w fun e w' => e = .returned (.tuple #[.agg #[.int .i64 ((cutP z s n).1.x), .int .i64 ((cutP z s n).1.y), .int .i64 ((cutP z s n).1.u), .int .i64 ((cutP z s n).1.v)], .agg #[.int .i64 ((cutP z s n).2.x), .int .i64 ((cutP z s n).2.y), .int .i64 ((cutP z s n).2.u), .int .i64 ((cutP z s n).2.v)]]) ∧ Below w.heap.size w w' := by
  have h : s = 0 ∨ s = 1 ∨ s = 2 ∨ s = 3 := by omega
  rcases h with rfl | rfl | rfl | rfl
  · exact cut0_any z.x z.y z.u z.v n w hz hn
  · exact cut1_any z.x z.y z.u z.v n w hz hn
  · exact cut2_any z.x z.y z.u z.v n w hz hn
  · exact cut3_any z.x z.y z.u z.v n w hz hn
theorem size_v (z : Rc) (d : Bool) (w : World) : Calls Try.prog 68 #[.agg #[.int .i64 (z.x), .int .i64 (z.y), .int .i64 (z.u), .int .i64 (z.v)], .bool d] w fun e w' => e = .returned (.int .i64 (z.size d)) ∧ Below w.heap.size w w' := by
  cases d
  all_goals
    go_enter Try.func68, Try.ntmps68
    go_wp2
    go_ret
    exact ⟨rfl, balloc (Below.refl _ _)⟩
theorem moreOf_no {L : List Pk} {p : Pk} {r : List Pk} {z : Rc} (e : L = p :: r) (h : p.ex = false) : moreOf L z = 0 := by subst e; simp [moreOf, h]
theorem moreOf_yes {L : List Pk} {p : Pk} {r : List Pk} {z : Rc} (e : L = p :: r) (h : p.ex = true) : moreOf L z = shareGo L p.down (z.size p.down) (z.size p.down) 0 := by subst e; simp [moreOf, h]
theorem cells4 {w : World} {b : Nat} {a0 a1 a2 a3 : Value} {T : TypeId} {fz : Nat × Nat} (h : w.heap[b]? = some (.cells #[a0, a1, a2, a3] T fz)) :
    w.cell? ⟨b, 0, none⟩ = some a0 ∧ w.cell? ⟨b, 1, none⟩ = some a1 ∧ w.cell? ⟨b, 2, none⟩ = some a2 ∧ w.cell? ⟨b, 3, none⟩ = some a3 := ⟨cellH h 0, cellH h 1, cellH h 2, cellH h 3⟩
set_option maxRecDepth 100000 in
/-- the closure of packParcels -/
theorem share1_v (b off c lf : Nat) (L : List Pk) (p : Pk) (r : List Pk) (z : Rc) (w : World) (e0 : L = p :: r) (h : PV w (some ⟨b, off, none⟩) L) (hL : vpsB L = true) (hz : z.ok = true)
    (hl : w.heap[lf]? = some (.cells #[.int .i64 z.x, .int .i64 z.y, .int .i64 z.u, .int .i64 z.v] 42 (0, 0))) :
    Calls Try.prog 66 #[.slice (some ⟨b, off, none⟩) L.length c, .pointer (some ⟨lf, 0, none⟩)] w fun e w' => e = .returned (.int .i64 (moreOf L z)) ∧ Below w.heap.size w w' := by
  obtain ⟨b', off', eA, hb, hc⟩ := first_cells h e0
  injection eA with eA
  injection eA with e1 e2
  subst e1 e2
  have hlf := (Array.getElem?_eq_some_iff.1 hl).1
  obtain ⟨sb1, sb2⟩ := Rc.size_bd hz p.down
  have HL := Lib.hid hl
  have HV := Lib.hid hL
  have hlp : 0 < L.length := by rw [e0]; simp
  have HE := Lib.hid e0
  have HH := Lib.hid h
  obtain ⟨l0, l1, l2, l3⟩ := cells4 hl
  have hne := Nat.ne_of_lt hlf
  obtain ⟨c0, c1, c2, c3, c4, c5, c6, c7, c8⟩ := hc
  clear hl h hL e0
  cases hx : p.ex
  · have HM := Lib.hid (moreOf_no (z := z) HE.out hx)
    rw [hx] at c5
    clear hx
    go_enter Try.func66, Try.ntmps66
    go_wp2
    go_ret
    exact ⟨ret_int HM.out.symm, balloc (Below.refl _ _)⟩
  · have HM := Lib.hid (moreOf_yes (z := z) HE.out hx)
    have HX := Lib.hid hx
    rw [hx] at c5
    clear hx
    go_enter Try.func66, Try.ntmps66
    go_wp2_with fail
    refine wp_region_grow 8 1 (· < 8) (by kernel_rfl) (by kernel_rfl) rfl ?_
    iterate 8 (refine wpG_step (fun K hK => ?_); apply Exists.intro; refine ⟨.inl ⟨rfl, fun w' hw' => ?_⟩, ?_⟩; (focus ((obtain ⟨hc, hf⟩ := bcell hw'.out); (have hcS := bcellS hw'.out); go_simp <;> first | rfl | (go_at_call 64; exact isDown_x p _ _) | (go_at_call 68; exact size_v z _ _) | (go_at_call 67; exact expandShare_v _ c L _ _ _ (HH.out.keep (bkeep2 (Below.drew (balloc (Below.refl _ _))) hw'.out)) HV.out p r HE.out rfl HX.out sb1 sb2))); (go_simp; refine hK _ ?_; clear hK K))
    refine wpG_nil ?_
    refine wpK_tail (by kernel_rfl) (fun w1 hg1 => ?_)
    refine wpAny_one (i := 8) (by kernel_rfl) rfl rfl ?_
    go_simp
    refine wpAny_end (by kernel_rfl) ?_
    refine NoPan.thn ?_
    have HB := Lib.hid (bkeep2 (Below.drew (balloc (Below.refl _ _))) hg1.out)
    clear hg1 c0 c1 c2 c3 c4 c5 c6 c7 c8 l0 l1 l2 l3
    go_wp2
    go_ret
    exact ⟨ret_int HM.out.symm, HB.out⟩
end Go.Proofs.Ytjdjahckdgbkbab
end
section
namespace Go.Proofs.Ytjdjahckdgbkbab
open Go.RowKit
set_option linter.unusedVariables false
set_option maxHeartbeats 1000000
def vals4 (r : Rc) : List Value := [.int .i64 r.x, .int .i64 r.y, .int .i64 r.u, .int .i64 r.v]
def In4 (cs : Array Value) (o : Nat) (r : Rc) : Prop := ∀ j, j < 4 → cs[o + j]? = (vals4 r)[j]?
def Cells4 (w : World) (b o : Nat) (r : Rc) : Prop := w.cell? ⟨b, o, none⟩ = some (.int .i64 r.x) ∧ w.cell? ⟨b, o + 1, none⟩ = some (.int .i64 r.y) ∧ w.cell? ⟨b, o + 2, none⟩ = some (.int .i64 r.u) ∧ w.cell? ⟨b, o + 3, none⟩ = some (.int .i64 r.v)
theorem In4.cells {w : World} {b : Nat} {cs : Array Value} {T : TypeId} {fz : Nat × Nat} {o : Nat} {r : Rc} (hh : w.heap[b]? = some (.cells cs T fz)) (h : In4 cs o r) : Cells4 w b o r := by
  have e : ∀ j, j < 4 → w.cell? ⟨b, o + j, none⟩ = (vals4 r)[j]? := fun j hj => (cellH hh _).trans (h j hj)
  exact ⟨e 0 (by omega), e 1 (by omega), e 2 (by omega), e 3 (by omega)⟩
theorem In4.write {cs : Array Value} {o : Nat} (r : Rc) (h : o + 4 ≤ cs.size) : In4 (writeAt cs o (vals4 r)) o r := fun j hj => writeAt_in _ _ _ _ h hj
theorem In4.keep {cs : Array Value} {o o' : Nat} {r q : Rc} (h : In4 cs o' q) (hd : o' + 4 ≤ o ∨ o + 4 ≤ o') : In4 (writeAt cs o (vals4 r)) o' q := fun j hj => by
  rcases hd with hd | hd
  · rw [writeAt_lo _ _ _ _ (by omega)]; exact h j hj
  · rw [writeAt_hi _ _ _ _ (by simp [vals4]; omega)]; exact h j hj
/-- what a block of rectangles of the call's own holds -/
def Blk4 (w : World) (g : Nat) (M : List Rc) : Prop := ∃ cs : Array Value, w.heap[g]? = some (.cells cs 42 (0, 0)) ∧ cs.size = M.length * 4 ∧ ∀ i r, M[i]? = some r → In4 cs (i * 4) r
theorem Blk4.keep {w w' : World} {g : Nat} {M : List Rc} (h : Blk4 w g M) (hb : Below w.heap.size w w') : Blk4 w' g M := by
  obtain ⟨cs, hh, hs, hc⟩ := h
  exact ⟨cs, (hb.block g (Array.getElem?_eq_some_iff.1 hh).1).trans hh, hs, hc⟩
theorem pput4 {w : World} {b : Nat} {cs : Array Value} {T : TypeId} {fz : Nat × Nat} (h : w.heap[b]? = some (.cells cs T fz)) (o : Nat) (r : Rc) :
    ((((w.setCell ⟨b, o, none⟩ (.int .i64 r.x)).setCell ⟨b, o + 1, none⟩ (.int .i64 r.y)).setCell ⟨b, o + 2, none⟩ (.int .i64 r.u)).setCell ⟨b, o + 3, none⟩ (.int .i64 r.v)).heap[b]? = some (.cells (writeAt cs o (vals4 r)) T fz) :=
  pput1 (pput1 (pput1 (pput1 h _) _) _) _
theorem pput4o {w : World} {b b' : Nat} (h : b' ≠ b) (o0 o1 o2 o3 : Nat) (x0 x1 x2 x3 : Value) :
    ((((w.setCell ⟨b, o0, none⟩ x0).setCell ⟨b, o1, none⟩ x1).setCell ⟨b, o2, none⟩ x2).setCell ⟨b, o3, none⟩ x3).heap[b']? = w.heap[b']? := by
  rw [Below.heap_setCell _ _ _ _ h, Below.heap_setCell _ _ _ _ h, Below.heap_setCell _ _ _ _ h, Below.heap_setCell _ _ _ _ h]
theorem pput4z {w : World} {b : Nat} {a0 a1 a2 a3 : Value} {T : TypeId} {fz : Nat × Nat} (h : w.heap[b]? = some (.cells #[a0, a1, a2, a3] T fz)) (x0 x1 x2 x3 : Value) :
    ((((w.setCell ⟨b, 0, none⟩ x0).setCell ⟨b, 1, none⟩ x1).setCell ⟨b, 2, none⟩ x2).setCell ⟨b, 3, none⟩ x3).heap[b]? = some (.cells #[x0, x1, x2, x3] T fz) := by
  rw [pput1 (pput1 (pput1 (pput1 h x0) x1) x2) x3]; rfl
theorem pput4b {B b : Nat} {a w : World} (h : Below B a w) (hb : B ≤ b) (o0 o1 o2 o3 : Nat) (x0 x1 x2 x3 : Value) : Below B a ((((w.setCell ⟨b, o0, none⟩ x0).setCell ⟨b, o1, none⟩ x1).setCell ⟨b, o2, none⟩ x2).setCell ⟨b, o3, none⟩ x3) :=
  (((h.setCell hb _).setCell hb _).setCell hb _).setCell hb _
theorem made4 : ∃ f : Nat → Array Value, (∀ n, (f n).size = n * 4) ∧ ∀ (n : Nat) (w : World), n ≤ 1048576 → (Instr.makeSlice 37 (.int .i64 (n : Int)) (.int .i64 (n : Int))).run Try.prog w = .ok (.slice (some ⟨w.heap.size, 0, none⟩) n n) (w.alloc (.cells (f n) 42)) := by
  have hinfo : (Try.prog.info? 42).map (fun i => (i.zero, i.size, i.bytes)) = some (some (.agg #[.int .i64 0, .int .i64 0, .int .i64 0, .int .i64 0]), 4, 32) := by kernel_rfl
  obtain ⟨i, hi, h1, h2, h3⟩ := info_parts hinfo
  refine ⟨fun n => madeCells (Value.agg #[.int .i64 0, .int .i64 0, .int .i64 0, .int .i64 0]).cells (n * 4), fun n => size_madeCells _ _, fun n w hn => ?_⟩
  have hr := run_make (P := Try.prog) w 37 42 i _ Try.underlying37 hi h1 .i64 .i64 n n (by omega) (Int.le_refl _) (by rw [h3]; omega) (by omega)
  rw [h2] at hr
  simpa using hr
theorem share1_n (b off c lf n : Nat) (L : List Pk) (p : Pk) (r : List Pk) (z : Rc) (w : World) (hn : n = L.length) (e0 : L = p :: r) (h : PV w (some ⟨b, off, none⟩) L) (hL : vpsB L = true) (hz : z.ok = true)
    (hl : w.heap[lf]? = some (.cells #[.int .i64 z.x, .int .i64 z.y, .int .i64 z.u, .int .i64 z.v] 42 (0, 0))) :
    Calls Try.prog 66 #[.slice (some ⟨b, off, none⟩) n c, .pointer (some ⟨lf, 0, none⟩)] w fun e w' => e = .returned (.int .i64 (moreOf L z)) ∧ Below w.heap.size w w' := by
  subst hn; exact share1_v b off c lf L p r z w e0 h hL hz hl
end Go.Proofs.Ytjdjahckdgbkbab
end
section
namespace Go.Proofs.Ytjdjahckdgbkbab
open Go.RowKit
set_option linter.unusedVariables false
set_option maxHeartbeats 1000000
attribute [local go_sem 5000] run_mx run_mn
attribute [local go_sem] growUpon_value growUpon_skip growUpon_enter
theorem bp_genP {P : Program} {f : Func} {R : Ending → World → Prop} {e : Exit} {a : Act} {W : World} (F : World → Prop) (hF : F W) (h : ∀ W0, F W0 → bodyPost P f R e a W0) : bodyPost P f R e a W := h W hF
theorem Blk4.far {w : World} {g b : Nat} {M : List Rc} (h : Blk4 w g M) (hne : g ≠ b) (o0 o1 o2 o3 : Nat) (x0 x1 x2 x3 : Value) : Blk4 ((((w.setCell ⟨b, o0, none⟩ x0).setCell ⟨b, o1, none⟩ x1).setCell ⟨b, o2, none⟩ x2).setCell ⟨b, o3, none⟩ x3) g M := by
  obtain ⟨cs, hh, hs, hc⟩ := h
  exact ⟨cs, (pput4o hne _ _ _ _ _ _ _ _).trans hh, hs, hc⟩
theorem vps_drop {L : List Pk} (h : vpsB L = true) (k : Nat) : vpsB (L.drop k) = true := by
  obtain ⟨h1, h2⟩ := vpsB_iff.1 h
  exact vpsB_iff.2 ⟨fun p hp => h1 p (List.mem_of_mem_drop hp), by rw [List.length_drop]; omega⟩
theorem parcM_step {L : List Pk} {k : Nat} {p : Pk} {z : Rc} {M : List Rc} {Z : Rc} (hg : L[k]? = some p) (h : parcM (L.drop k) z = (M.drop k, Z)) :
    M[k]? = some (cutP z p.s (takeOf p (L.drop (k + 1)) z)).1 ∧ parcM (L.drop (k + 1)) (cutP z p.s (takeOf p (L.drop (k + 1)) z)).2 = (M.drop (k + 1), Z) := by
  rw [drop_cons hg] at h
  simp only [parcM, Prod.mk.injEq] at h
  obtain ⟨h1, h2⟩ := h
  have e : M.drop k = (M.drop k)[0]?.toList ++ M.drop (k + 1) := by
    rw [← h1]
    have : M.drop (k + 1) = (M.drop k).drop 1 := by rw [List.drop_drop]
    rw [this, ← h1]; simp
  have g0 : (M.drop k)[0]? = some (cutP z p.s (takeOf p (L.drop (k + 1)) z)).1 := by rw [← h1]; rfl
  refine ⟨by rw [List.getElem?_drop] at g0; simpa using g0, ?_⟩
  have h3 : M.drop (k + 1) = (M.drop k).drop 1 := by rw [List.drop_drop]
  rw [h3, ← h1, ← h2]
  rfl
set_option maxRecDepth 100000 in
theorem packParcels_v (A : Option Addr) (c : Nat) (L : List Pk) (z0 : Rc) (w : World) (h : PV w A L) (hcap : L.length ≤ c) (hL : vpsB L = true) (hz0 : z0.ok = true) (M : List Rc) (Z : Rc) (hM : parcM L z0 = (M, Z)) :
    Calls Try.prog 45 #[.slice A L.length c, .agg #[.int .i64 (z0.x), .int .i64 (z0.y), .int .i64 (z0.u), .int .i64 (z0.v)]] w fun e w' => (∃ g, e = .returned (.tuple #[.slice (some ⟨g, 0, none⟩) L.length L.length, .agg #[.int .i64 (Z.x), .int .i64 (Z.y), .int .i64 (Z.u), .int .i64 (Z.v)]]) ∧ w.heap.size ≤ g ∧ Blk4 w' g M) ∧ Below w.heap.size w w' := by
  obtain ⟨hok, h7⟩ := vpsB_iff.1 hL
  have hML : M.length = L.length := by have := parcM_len (L := L) (z := z0); rw [hM] at this; exact this
  obtain ⟨f, hf, hmk0⟩ := made4
  have hmk : ∀ w : World, (Instr.makeSlice 37 (.int .i64 (L.length : Int)) (.int .i64 (L.length : Int))).run Try.prog w = .ok (.slice (some ⟨w.heap.size, 0, none⟩) L.length L.length) (w.alloc (.cells (f L.length) 42)) := fun w => hmk0 L.length w (by omega)
  have HOK := Lib.hid hok
  have HML := Lib.hid hML
  have HVL := Lib.hid hL
  have HM := Lib.hid hM
  clear hok hML hL hM hmk0
  go_enter Try.func45, Try.ntmps45
  go_wp2_with fail
  have H0 : ∀ (i : Nat) (r : Rc), i < 0 → M[i]? = some r → In4 (f L.length) (i * 4) r := fun i r hi => absurd hi (by omega)
  have HF := Lib.hid (And.intro (hf L.length) H0)
  clear H0 hf hmk
  go_loopw [17] (fun i wr => ∃ k : Nat, k ≤ L.length ∧ i = .int .i64 k ∧ (∃ cs : Array Value, wr.heap[w.heap.size + 1 + 1]? = some (.cells cs 42 (0, 0)) ∧ cs.size = L.length * 4 ∧ ∀ i r, i < k → M[i]? = some r → In4 cs (i * 4) r) ∧
    (∃ z : Rc, wr.heap[w.heap.size]? = some (.cells #[.int .i64 z.x, .int .i64 z.y, .int .i64 z.u, .int .i64 z.v] 42 (0, 0)) ∧ z.ok = true ∧ parcM (L.drop k) z = (M.drop k, Z)) ∧
    wr.heap[w.heap.size + 1]? = some (.cells #[.int .i64 0, .int .i64 0, .int .i64 0, .int .i64 0] 42 (0, 0)) ∧ Below w.heap.size w wr) (fun i _ => L.length - (intOf i).toNat)
  case atStart =>
    refine ⟨0, by omega, rfl, ⟨_, ?_, HF.out.1, HF.out.2⟩, ⟨z0, ?_, hz0, HM.out⟩, ?_, balloc (balloc (balloc (Below.refl _ _)))⟩
    · have e := heap_new ((w.alloc (.cells #[.int .i64 z0.x, .int .i64 z0.y, .int .i64 z0.u, .int .i64 z0.v] 42)).alloc (.cells #[.int .i64 0, .int .i64 0, .int .i64 0, .int .i64 0] 42)) (.cells (f L.length) 42)
      simpa only [World.size_alloc] using e
    · rw [Below.heap_alloc _ _ _ (by simp; omega), Below.heap_alloc _ _ _ (by simp)]; exact heap_new _ _
    · rw [Below.heap_alloc _ _ _ (by simp)]
      have e := heap_new (w.alloc (.cells #[.int .i64 z0.x, .int .i64 z0.y, .int .i64 z0.u, .int .i64 z0.v] 42)) (.cells #[.int .i64 0, .int .i64 0, .int .i64 0, .int .i64 0] 42)
      simpa only [World.size_alloc] using e
  case round =>
    obtain ⟨k, hk, rfl, ⟨cs, hh, hs, hc⟩, ⟨z, hl, hz, hp⟩, hr, hB⟩ := hrel
    clear HF HM
    by_cases hlt : k < L.length
    · have hd : decide ((k : Int) < (L.length : Int)) = true := by simpa using hlt
      obtain ⟨b, off, rfl, hb, hps⟩ := (h.keep hB).cells (by omega)
      obtain ⟨c0, c1, c2, c3, c4, c5, c6, c7, c8⟩ := hps k _ (List.getElem?_eq_getElem hlt)
      have hget : L[k]? = some L[k] := List.getElem?_eq_getElem hlt
      generalize hx : L[k] = p at *
      have hpk : p.ok = true := HOK.out p (List.mem_of_getElem? hget)
      have hdrop := drop_cons hget
      obtain ⟨tk1, tk2⟩ := takeOf_bd (p := p) (r := L.drop (k + 1)) (z := z) (fun q hq => HOK.out q (List.mem_of_mem_drop (by rw [hdrop]; exact hq : q ∈ L.drop k))) hz
      have hw6 : IntKind.i64.wrap (p.need p.down + moreOf (L.drop k) z) = takeOf p (L.drop (k + 1)) z := by
        rw [hdrop]
        exact IntWalk.i64_in _ (by unfold takeOf at tk1 tk2; omega)
      obtain ⟨b1, b2, ⟨b3, b4⟩, b5⟩ := pbd hpk
      have hdl : L.length - k = (L.drop k).length := by rw [List.length_drop]
      have HG := Lib.hid hget
      have HX := Lib.hid hx
      have HH := Lib.hid hh
      have HS := Lib.hid hs
      have HC := Lib.hid hc
      have HL := Lib.hid hl
      have HZ := Lib.hid hz
      have HP := Lib.hid hp
      have HR := Lib.hid hr
      have HBB := Lib.hid hB
      have HPS := Lib.hid hps
      have HPK := Lib.hid hpk
      have HD := Lib.hid hdrop
      have HDL := Lib.hid hdl
      obtain ⟨l0, l1, l2, l3⟩ := cells4 hl
      have hll := (Array.getElem?_eq_some_iff.1 hl).1
      have hln := Nat.ne_of_lt hll
      clear hget hx hh hs hc hl hz hp hr hB hps hpk hdrop hdl b1 b2 b5
      go_wp2_with fail
      have hkL : k ≤ L.length := by omega
      have hLk : ¬ L.length = k := by omega
      refine wp_region_grow 14 1 (· < 14) (by kernel_rfl) (by kernel_rfl) rfl ?_
      iterate 14 (refine wpG_step (fun K hK => ?_); apply Exists.intro; refine ⟨.inl ⟨rfl, fun w' hw' => ?_⟩, ?_⟩; (focus ((obtain ⟨hc, hf⟩ := bcell hw'.out); (have hcS := bcellS hw'.out); go_simp <;> first | rfl | (go_at_call 64; exact isDown_x p _ _) | (go_at_call 65; exact need_v p _ _ HPK.out) | (go_at_call 66; exact share1_n _ _ _ _ _ (L.drop k) p _ z _ HDL.out HD.out ((PV.drop HPS.out hb).keep (bkeep2 (Below.drew (balloc (Below.refl _ _))) hw'.out)) (vps_drop HVL.out k) HZ.out (((bkeep2 (Below.drew (balloc (Below.refl _ _))) hw'.out).block _ hll).trans HL.out)))); (go_simp; refine hK _ ?_; clear hK K))
      refine wpG_nil ?_
      refine wpK_tail (by kernel_rfl) (fun w1 hg1 => ?_)
      refine wpAny_one (i := 14) (by kernel_rfl) rfl rfl ?_
      go_simp
      refine wpAny_end (by kernel_rfl) ?_
      refine NoPan.thn ?_
      have hgl := hg1.out
      have hB1 : Below wr.heap.size wr w1 := bkeep2 (Below.drew (balloc (Below.refl _ _))) hgl
      have hv1 := (hgl.block wr.heap.size (by simp)).trans (heap_new wr (.cells #[.int .i64 p.w, .int .i64 p.h, .int .i64 p.s, .bool p.fx, .bool p.fy, .bool p.ex, .int .i64 p.an, .int .i64 p.px, .int .i64 p.py] 35))
      have HV := Lib.hid hv1
      have HB1 := Lib.hid hB1
      replace HL := Lib.hid ((hB1.block _ hll).trans HL.out)
      have hgg : w.heap.size + 1 + 1 < wr.heap.size := (Array.getElem?_eq_some_iff.1 HH.out).1
      have hrr : w.heap.size + 1 < wr.heap.size := by omega
      replace HH := Lib.hid ((hB1.block _ hgg).trans HH.out)
      replace HR := Lib.hid ((hB1.block _ hrr).trans HR.out)
      obtain ⟨m0, m1, m2, m3⟩ := cells4 HL.out
      have m4 : w1.cell? ⟨wr.heap.size, 2, none⟩ = some (.int .i64 p.s) := cellH hv1 2
      clear hgl hB1 hv1 hg1 c0 c1 c2 c3 c4 c5 c6 c7 c8 l0 l1 l2 l3 hw6
      go_wp2_with fail
      with_reducible refine (cut_v z p.s (takeOf p (L.drop (k + 1)) z) _ HZ.out b3 b4 tk1).mono ?_
      rintro e w2 ⟨rfl, hb2⟩
      clear m0 m1 m2 m3 m4 HV
      obtain ⟨P, hP⟩ : ∃ P, cutP z p.s (takeOf p (L.drop (k + 1)) z) = P := ⟨_, rfl⟩
      rw [hP]
      have hok2 := cutP_ok (s := p.s) (n := takeOf p (L.drop (k + 1)) z) HZ.out tk1
      obtain ⟨hst1, hst2⟩ := parcM_step HG.out HP.out
      rw [hP] at hst1 hst2 hok2
      have HST1 := Lib.hid hst1
      have HST2 := Lib.hid hst2
      have HOK2 := Lib.hid hok2.2
      have hs1 := HB1.out.size
      replace HL := Lib.hid ((hb2.block _ (by omega)).trans HL.out)
      replace HH := Lib.hid ((hb2.block _ (by omega)).trans HH.out)
      replace HR := Lib.hid ((hb2.block _ (by omega)).trans HR.out)
      replace HBB := Lib.hid ((HBB.out.trans (HB1.out.mono HBB.out.size)).trans (hb2.mono (by have := HBB.out.size; omega)))
      clear hP hst1 hst2 hok2 hb2 HB1 hs1 hgg hrr hll hln
      have hsz : k * 4 + 4 ≤ cs.size := by rw [HS.out]; omega
      obtain ⟨y0, d0⟩ := there HH.out (i := k * 4) (by omega)
      obtain ⟨y1, d1⟩ := there HH.out (i := k * 4 + 1) (by omega)
      obtain ⟨y2, d2⟩ := there HH.out (i := k * 4 + 2) (by omega)
      obtain ⟨y3, d3⟩ := there HH.out (i := k * 4 + 3) (by omega)
      have f0 := frozenH HH.out (k * 4)
      have f1 := frozenH HH.out (k * 4 + 1)
      have f2 := frozenH HH.out (k * 4 + 2)
      have f3 := frozenH HH.out (k * 4 + 3)
      obtain ⟨l0, l1, l2, l3⟩ := cells4 HL.out
      have g0 := frozenH HL.out 0
      have g1 := frozenH HL.out 1
      have g2 := frozenH HL.out 2
      have g3 := frozenH HL.out 3
      have n1 : ¬ w.heap.size + 1 + 1 = w.heap.size := by omega
      have n2 : ¬ w.heap.size = w.heap.size + 1 + 1 := by omega
      have E1 := Lib.hid ((pput4o (b := w.heap.size) (b' := w.heap.size + 1 + 1) n1 0 1 2 3 (.int .i64 P.2.x) (.int .i64 P.2.y) (.int .i64 P.2.u) (.int .i64 P.2.v)).trans (pput4 HH.out (k * 4) P.1))
      have E2 := Lib.hid (pput4z ((pput4o (b := w.heap.size + 1 + 1) (b' := w.heap.size) n2 (k * 4) (k * 4 + 1) (k * 4 + 2) (k * 4 + 3) (.int .i64 P.1.x) (.int .i64 P.1.y) (.int .i64 P.1.u) (.int .i64 P.1.v)).trans HL.out) (.int .i64 P.2.x) (.int .i64 P.2.y) (.int .i64 P.2.u) (.int .i64 P.2.v))
      have E3 := Lib.hid ((pput4o (b := w.heap.size) (b' := w.heap.size + 1) (by omega) 0 1 2 3 (.int .i64 P.2.x) (.int .i64 P.2.y) (.int .i64 P.2.u) (.int .i64 P.2.v)).trans ((pput4o (b := w.heap.size + 1 + 1) (b' := w.heap.size + 1) (by omega) (k * 4) (k * 4 + 1) (k * 4 + 2) (k * 4 + 3) (.int .i64 P.1.x) (.int .i64 P.1.y) (.int .i64 P.1.u) (.int .i64 P.1.v)).trans HR.out))
      have E4 := Lib.hid (pput4b (pput4b HBB.out (b := w.heap.size + 1 + 1) (by omega) (k * 4) (k * 4 + 1) (k * 4 + 2) (k * 4 + 3) (.int .i64 P.1.x) (.int .i64 P.1.y) (.int .i64 P.1.u) (.int .i64 P.1.v)) (b := w.heap.size) (by omega) 0 1 2 3 (.int .i64 P.2.x) (.int .i64 P.2.y) (.int .i64 P.2.u) (.int .i64 P.2.v))
      go_wp2
      go_roundw
      case rel => exact ⟨k + 1, by omega, by go_num, ⟨_, E1.out, (writeAt_size _ _ _).trans HS.out, fun i q hi hq => by
        by_cases e : i = k
        · subst e
          obtain rfl : P.1 = q := by have := HST1.out; rw [this] at hq; exact Option.some.inj hq
          exact In4.write P.1 hsz
        · exact (HC.out i q (by omega) hq).keep (.inl (by omega))⟩, ⟨P.2, E2.out, HOK2.out, HST2.out⟩, E3.out, E4.out⟩
      case measure => simp [intOf]; omega
    · have hd : decide ((k : Int) < (L.length : Int)) = false := by simp; omega
      obtain rfl : k = L.length := by omega
      rw [List.drop_length] at hp
      have hpz : z = Z := by simp only [parcM, Prod.mk.injEq] at hp; exact hp.2
      subst hpz
      have HBK := Lib.hid (show Blk4 wr (w.heap.size + 1 + 1) M from ⟨cs, hh, by rw [hs, HML.out], fun i r hi => hc i r (by have := (List.getElem?_eq_some_iff.1 hi).1; rw [HML.out] at this; exact this) hi⟩)
      have HL := Lib.hid hl
      have HR := Lib.hid hr
      have HBB := Lib.hid hB
      obtain ⟨l0, l1, l2, l3⟩ := cells4 hl
      clear hh hs hc hl hp hr hB
      obtain ⟨r0, r1, r2, r3⟩ := cells4 HR.out
      have g0 := frozenH HR.out 0
      have g1 := frozenH HR.out 1
      have g2 := frozenH HR.out 2
      have g3 := frozenH HR.out 3
      go_wp2_with fail
      go_region
      go_wp2
      refine bp_genP (fun W => W.heap[w.heap.size + 1]? = some (.cells #[.int .i64 z.x, .int .i64 z.y, .int .i64 z.u, .int .i64 z.v] 42 (0, 0)) ∧ Blk4 W (w.heap.size + 1 + 1) M ∧ Below w.heap.size w W)
        ⟨pput4z HR.out _ _ _ _, HBK.out.far (by omega) _ _ _ _ _ _ _ _, Below.drew (pput4b HBB.out (by omega) _ _ _ _ _ _ _ _)⟩ ?_
      clear HR HL HBB HBK l0 l1 l2 l3 r0 r1 r2 r3 g0 g1 g2 g3
      rintro W ⟨hW, hk2, hB2⟩
      obtain ⟨r0, r1, r2, r3⟩ := cells4 hW
      exact bodyPost_ret (v := .tuple #[.slice (some ⟨w.heap.size + 1 + 1, 0, none⟩) L.length L.length, .agg #[.int .i64 (z.x), .int .i64 (z.y), .int .i64 (z.u), .int .i64 (z.v)]]) (by simp only [results, Try.results45]; go_simp) rfl ⟨⟨_, rfl, by omega, hk2⟩, hB2⟩
end Go.Proofs.Ytjdjahckdgbkbab
end
