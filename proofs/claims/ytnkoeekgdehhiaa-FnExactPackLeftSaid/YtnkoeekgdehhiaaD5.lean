import Derived.Test.YtnkoeekgdehhiaaC
import Derived.Test.YtnkoeekgdehhiaaMath3
import Derived.RegionTactic
namespace Go.Proofs.Ytnkoeekgdehhiaa
open Go.RowKit
set_option linter.unusedVariables false
attribute [local go_sem 5000] run_mx run_mn run_eqlR run_neqR
attribute [local go_sem] growUpon_value growUpon_skip growUpon_enter
set_option maxHeartbeats 1000000
theorem box4 {w : World} {b : Nat} {t0 t1 t2 t3 : Value} (v0 v1 v2 v3 : Value) (h0 : w.cell? ⟨b, 0, none⟩ = some t0) (h1 : w.cell? ⟨b, 1, none⟩ = some t1) (h2 : w.cell? ⟨b, 2, none⟩ = some t2) (h3 : w.cell? ⟨b, 3, none⟩ = some t3) :
    ((((w.setCell ⟨b, 0, none⟩ v0).setCell ⟨b, 1, none⟩ v1).setCell ⟨b, 2, none⟩ v2).setCell ⟨b, 3, none⟩ v3).cell? ⟨b, 0, none⟩ = some v0 ∧ ((((w.setCell ⟨b, 0, none⟩ v0).setCell ⟨b, 1, none⟩ v1).setCell ⟨b, 2, none⟩ v2).setCell ⟨b, 3, none⟩ v3).cell? ⟨b, 1, none⟩ = some v1 ∧
    ((((w.setCell ⟨b, 0, none⟩ v0).setCell ⟨b, 1, none⟩ v1).setCell ⟨b, 2, none⟩ v2).setCell ⟨b, 3, none⟩ v3).cell? ⟨b, 2, none⟩ = some v2 ∧ ((((w.setCell ⟨b, 0, none⟩ v0).setCell ⟨b, 1, none⟩ v1).setCell ⟨b, 2, none⟩ v2).setCell ⟨b, 3, none⟩ v3).cell? ⟨b, 3, none⟩ = some v3 ∧
    ∀ c o, c ≠ b → ((((w.setCell ⟨b, 0, none⟩ v0).setCell ⟨b, 1, none⟩ v1).setCell ⟨b, 2, none⟩ v2).setCell ⟨b, 3, none⟩ v3).cell? ⟨c, o, none⟩ = w.cell? ⟨c, o, none⟩ := by
  have ne : ∀ i j : Nat, i ≠ j → (⟨b, i, none⟩ : Addr) ≠ ⟨b, j, none⟩ := fun i j h e => h (by injection e)
  have nb : ∀ c i o : Nat, c ≠ b → (⟨b, i, none⟩ : Addr) ≠ ⟨c, o, none⟩ := fun c i o h e => h (by injection e with e1; exact e1.symm)
  refine ⟨?_, ?_, ?_, ?_, fun c o hc => ?_⟩
  · rw [World.cell?_setCell_other _ _ _ _ (ne 3 0 (by decide)), World.cell?_setCell_other _ _ _ _ (ne 2 0 (by decide)), World.cell?_setCell_other _ _ _ _ (ne 1 0 (by decide))]
    exact World.cell?_setCell_same _ _ _ h0
  · rw [World.cell?_setCell_other _ _ _ _ (ne 3 1 (by decide)), World.cell?_setCell_other _ _ _ _ (ne 2 1 (by decide))]
    exact World.cell?_setCell_same _ _ _ ((World.cell?_setCell_other _ _ _ _ (ne 0 1 (by decide))).trans h1)
  · rw [World.cell?_setCell_other _ _ _ _ (ne 3 2 (by decide))]
    exact World.cell?_setCell_same _ _ _ (((World.cell?_setCell_other _ _ _ _ (ne 1 2 (by decide))).trans (World.cell?_setCell_other _ _ _ _ (ne 0 2 (by decide)))).trans h2)
  · exact World.cell?_setCell_same _ _ _ ((((World.cell?_setCell_other _ _ _ _ (ne 2 3 (by decide))).trans (World.cell?_setCell_other _ _ _ _ (ne 1 3 (by decide)))).trans (World.cell?_setCell_other _ _ _ _ (ne 0 3 (by decide)))).trans h3)
  · rw [World.cell?_setCell_other _ _ _ _ (nb c 3 o hc), World.cell?_setCell_other _ _ _ _ (nb c 2 o hc), World.cell?_setCell_other _ _ _ _ (nb c 1 o hc), World.cell?_setCell_other _ _ _ _ (nb c 0 o hc)]
theorem corners_eq (l t r b W H : Int) (w : World) (hS : Sm l t r b) (hW : r - l = W) (hH : b - t = H) :
    Calls Try.prog 81 #[.int .i64 l, .int .i64 t, .int .i64 r, .int .i64 b] w fun e w' => e = .returned (.agg #[.int .i64 (l), .int .i64 (t), .int .i64 (W), .int .i64 (H)]) ∧ Below w.heap.size w w' := by
  subst hW hH
  exact corners_any l t r b w hS
set_option maxRecDepth 100000 in
theorem cutTop_any (x y u v n m k : Int) (w : World) (h1 : vr x y u v = true) (h2 : 0 ≤ n) (hm : mn n v = m) (hk : v - m = k) :
    Calls Try.prog 77 #[.agg #[.int .i64 (x), .int .i64 (y), .int .i64 (u), .int .i64 (v)], .int .i64 n] w fun e w' => e = .returned (.tuple #[.agg #[.int .i64 (x), .int .i64 (y), .int .i64 (u), .int .i64 (m)], .agg #[.int .i64 (x), .int .i64 (y + m), .int .i64 (u), .int .i64 (k)]]) ∧ Below w.heap.size w w' := by
  obtain ⟨a1, a2, a3, a4, a5, a6, a7, a8⟩ := vr_iff.1 h1
  have g := mn_spec n v
  rw [hm] at g
  have g1 : 0 ≤ m := by omega
  have g2 : m ≤ v := by omega
  have S1 := Sm_vr h1
  have S2 : Sm x y (x + u) (y + m) := Sm_of (by omega)
  have S3 : Sm x (y + m) (x + u) (y + v) := Sm_of (by omega)
  clear g h1
  have hk1 : v - m ≤ k := by omega
  have hk2 : k ≤ v - m := by omega
  clear hk
  go_enter Try.func77, Try.ntmps77
  go_wp2_with fail
  refine wp_region_grow 16 2 (· < 16) (by kernel_rfl) (by kernel_rfl) rfl ?_
  iterate 16 (refine wpG_step (fun K hK => ?_); apply Exists.intro; refine ⟨.inl ⟨rfl, fun w' hw' => ?_⟩, ?_⟩; (focus ((obtain ⟨hc, hf⟩ := bcell hw'.out); (have hcS := bcellS hw'.out); go_simp <;> first | rfl | (go_at_call 82; exact right_any _ _ _ _ _ (by assumption)) | (go_at_call 83; exact bottom_any _ _ _ _ _ (by assumption)) | (go_at_call 81; refine corners_eq _ _ _ _ u m _ ?_ ?_ ?_; assumption; omega; omega) | (go_at_call 81; refine corners_eq _ _ _ _ u k _ ?_ ?_ ?_; assumption; omega; omega))); (go_simp; refine hK _ ?_; clear hK K))
  refine wpG_nil ?_
  refine wpK_tail (by kernel_rfl) (fun wt1 ht1 => ?_)
  obtain ⟨hct1, hft1⟩ := bcell ht1.out
  have kb0_0 : wt1.cell? ⟨w.heap.size + 1, 0, none⟩ = some (.int .i64 (0)) := by go_simp
  have kg0_0 : wt1.frozen? ⟨w.heap.size + 1, 0, none⟩ = false := by go_simp
  have kb0_1 : wt1.cell? ⟨w.heap.size + 1, 1, none⟩ = some (.int .i64 (0)) := by go_simp
  have kg0_1 : wt1.frozen? ⟨w.heap.size + 1, 1, none⟩ = false := by go_simp
  have kb0_2 : wt1.cell? ⟨w.heap.size + 1, 2, none⟩ = some (.int .i64 (0)) := by go_simp
  have kg0_2 : wt1.frozen? ⟨w.heap.size + 1, 2, none⟩ = false := by go_simp
  have kb0_3 : wt1.cell? ⟨w.heap.size + 1, 3, none⟩ = some (.int .i64 (0)) := by go_simp
  have kg0_3 : wt1.frozen? ⟨w.heap.size + 1, 3, none⟩ = false := by go_simp
  have kb1_0 : wt1.cell? ⟨w.heap.size + 1 + 1, 0, none⟩ = some (.int .i64 (0)) := by go_simp
  have kg1_0 : wt1.frozen? ⟨w.heap.size + 1 + 1, 0, none⟩ = false := by go_simp
  have kb1_1 : wt1.cell? ⟨w.heap.size + 1 + 1, 1, none⟩ = some (.int .i64 (0)) := by go_simp
  have kg1_1 : wt1.frozen? ⟨w.heap.size + 1 + 1, 1, none⟩ = false := by go_simp
  have kb1_2 : wt1.cell? ⟨w.heap.size + 1 + 1, 2, none⟩ = some (.int .i64 (0)) := by go_simp
  have kg1_2 : wt1.frozen? ⟨w.heap.size + 1 + 1, 2, none⟩ = false := by go_simp
  have kb1_3 : wt1.cell? ⟨w.heap.size + 1 + 1, 3, none⟩ = some (.int .i64 (0)) := by go_simp
  have kg1_3 : wt1.frozen? ⟨w.heap.size + 1 + 1, 3, none⟩ = false := by go_simp
  clear hct1 hft1
  refine wpAny_one (i := 16) (by kernel_rfl) rfl rfl ?_
  go_simp
  refine wpAny_one (i := 17) (by kernel_rfl) rfl rfl ?_
  go_simp
  refine wpAny_end (by kernel_rfl) ?_
  have XA := box4 (w := wt1) (b := w.heap.size + 1) (.int .i64 (x)) (.int .i64 (y)) (.int .i64 (u)) (.int .i64 (m)) kb0_0 kb0_1 kb0_2 kb0_3
  have XB := box4 (b := w.heap.size + 1 + 1) (.int .i64 (x)) (.int .i64 (y + m)) (.int .i64 (u)) (.int .i64 (k)) ((XA.2.2.2.2 (w.heap.size + 1 + 1) 0 (by omega)).trans kb1_0) ((XA.2.2.2.2 (w.heap.size + 1 + 1) 1 (by omega)).trans kb1_1) ((XA.2.2.2.2 (w.heap.size + 1 + 1) 2 (by omega)).trans kb1_2) ((XA.2.2.2.2 (w.heap.size + 1 + 1) 3 (by omega)).trans kb1_3)
  refine NoPan.gen (fun wf => Below w.heap.size w wf ∧ wf.cell? ⟨w.heap.size + 1, 0, none⟩ = some (.int .i64 (x)) ∧ wf.cell? ⟨w.heap.size + 1, 1, none⟩ = some (.int .i64 (y)) ∧ wf.cell? ⟨w.heap.size + 1, 2, none⟩ = some (.int .i64 (u)) ∧ wf.cell? ⟨w.heap.size + 1, 3, none⟩ = some (.int .i64 (m)) ∧ wf.cell? ⟨w.heap.size + 1 + 1, 0, none⟩ = some (.int .i64 (x)) ∧ wf.cell? ⟨w.heap.size + 1 + 1, 1, none⟩ = some (.int .i64 (y + m)) ∧ wf.cell? ⟨w.heap.size + 1 + 1, 2, none⟩ = some (.int .i64 (u)) ∧ wf.cell? ⟨w.heap.size + 1 + 1, 3, none⟩ = some (.int .i64 (k))) ⟨(by repeat (first | with_reducible exact Below.refl _ _ | with_reducible assumption | with_reducible refine balloc ?_ | (with_reducible refine bset ?_ ?_; rotate_left; ((try dsimp only); omega)) | refine bkeep2 ?_ (by assumption) | with_reducible refine Below.drew ?_)), (XB.2.2.2.2 (w.heap.size + 1) 0 (by omega)).trans XA.1, (XB.2.2.2.2 (w.heap.size + 1) 1 (by omega)).trans XA.2.1, (XB.2.2.2.2 (w.heap.size + 1) 2 (by omega)).trans XA.2.2.1, (XB.2.2.2.2 (w.heap.size + 1) 3 (by omega)).trans XA.2.2.2.1, XB.1, XB.2.1, XB.2.2.1, XB.2.2.2.1⟩ (fun wf hwf => ?_)
  clear XA XB kb0_0 kb0_1 kb0_2 kb0_3 kb1_0 kb1_1 kb1_2 kb1_3 kg0_0 kg0_1 kg0_2 kg0_3 kg1_0 kg1_1 kg1_2 kg1_3
  obtain ⟨hBf, z0, z1, z2, z3, z4, z5, z6, z7⟩ := hwf
  go_wp2
  exact bodyPost_ret (v := .tuple #[.agg #[.int .i64 (x), .int .i64 (y), .int .i64 (u), .int .i64 (m)], .agg #[.int .i64 (x), .int .i64 (y + m), .int .i64 (u), .int .i64 (k)]]) (by simp only [results, Try.results77]; go_simp) rfl ⟨rfl, (by repeat (first | with_reducible exact Below.refl _ _ | with_reducible assumption | with_reducible refine balloc ?_ | (with_reducible refine bset ?_ ?_; rotate_left; ((try dsimp only); omega)) | refine bkeep2 ?_ (by assumption) | with_reducible refine Below.drew ?_))⟩
set_option maxRecDepth 100000 in
theorem cutLeft_any (x y u v n m k : Int) (w : World) (h1 : vr x y u v = true) (h2 : 0 ≤ n) (hm : mn n u = m) (hk : u - m = k) :
    Calls Try.prog 79 #[.agg #[.int .i64 (x), .int .i64 (y), .int .i64 (u), .int .i64 (v)], .int .i64 n] w fun e w' => e = .returned (.tuple #[.agg #[.int .i64 (x), .int .i64 (y), .int .i64 (m), .int .i64 (v)], .agg #[.int .i64 (x + m), .int .i64 (y), .int .i64 (k), .int .i64 (v)]]) ∧ Below w.heap.size w w' := by
  obtain ⟨a1, a2, a3, a4, a5, a6, a7, a8⟩ := vr_iff.1 h1
  have g := mn_spec n u
  rw [hm] at g
  have g1 : 0 ≤ m := by omega
  have g2 : m ≤ u := by omega
  have S1 := Sm_vr h1
  have S2 : Sm x y (x + m) (y + v) := Sm_of (by omega)
  have S3 : Sm (x + m) y (x + u) (y + v) := Sm_of (by omega)
  clear g h1
  have hk1 : u - m ≤ k := by omega
  have hk2 : k ≤ u - m := by omega
  clear hk
  go_enter Try.func79, Try.ntmps79
  go_wp2_with fail
  refine wp_region_grow 16 2 (· < 16) (by kernel_rfl) (by kernel_rfl) rfl ?_
  iterate 16 (refine wpG_step (fun K hK => ?_); apply Exists.intro; refine ⟨.inl ⟨rfl, fun w' hw' => ?_⟩, ?_⟩; (focus ((obtain ⟨hc, hf⟩ := bcell hw'.out); (have hcS := bcellS hw'.out); go_simp <;> first | rfl | (go_at_call 82; exact right_any _ _ _ _ _ (by assumption)) | (go_at_call 83; exact bottom_any _ _ _ _ _ (by assumption)) | (go_at_call 81; refine corners_eq _ _ _ _ m v _ ?_ ?_ ?_; assumption; omega; omega) | (go_at_call 81; refine corners_eq _ _ _ _ k v _ ?_ ?_ ?_; assumption; omega; omega))); (go_simp; refine hK _ ?_; clear hK K))
  refine wpG_nil ?_
  refine wpK_tail (by kernel_rfl) (fun wt1 ht1 => ?_)
  obtain ⟨hct1, hft1⟩ := bcell ht1.out
  have kb0_0 : wt1.cell? ⟨w.heap.size + 1, 0, none⟩ = some (.int .i64 (0)) := by go_simp
  have kg0_0 : wt1.frozen? ⟨w.heap.size + 1, 0, none⟩ = false := by go_simp
  have kb0_1 : wt1.cell? ⟨w.heap.size + 1, 1, none⟩ = some (.int .i64 (0)) := by go_simp
  have kg0_1 : wt1.frozen? ⟨w.heap.size + 1, 1, none⟩ = false := by go_simp
  have kb0_2 : wt1.cell? ⟨w.heap.size + 1, 2, none⟩ = some (.int .i64 (0)) := by go_simp
  have kg0_2 : wt1.frozen? ⟨w.heap.size + 1, 2, none⟩ = false := by go_simp
  have kb0_3 : wt1.cell? ⟨w.heap.size + 1, 3, none⟩ = some (.int .i64 (0)) := by go_simp
  have kg0_3 : wt1.frozen? ⟨w.heap.size + 1, 3, none⟩ = false := by go_simp
  have kb1_0 : wt1.cell? ⟨w.heap.size + 1 + 1, 0, none⟩ = some (.int .i64 (0)) := by go_simp
  have kg1_0 : wt1.frozen? ⟨w.heap.size + 1 + 1, 0, none⟩ = false := by go_simp
  have kb1_1 : wt1.cell? ⟨w.heap.size + 1 + 1, 1, none⟩ = some (.int .i64 (0)) := by go_simp
  have kg1_1 : wt1.frozen? ⟨w.heap.size + 1 + 1, 1, none⟩ = false := by go_simp
  have kb1_2 : wt1.cell? ⟨w.heap.size + 1 + 1, 2, none⟩ = some (.int .i64 (0)) := by go_simp
  have kg1_2 : wt1.frozen? ⟨w.heap.size + 1 + 1, 2, none⟩ = false := by go_simp
  have kb1_3 : wt1.cell? ⟨w.heap.size + 1 + 1, 3, none⟩ = some (.int .i64 (0)) := by go_simp
  have kg1_3 : wt1.frozen? ⟨w.heap.size + 1 + 1, 3, none⟩ = false := by go_simp
  clear hct1 hft1
  refine wpAny_one (i := 16) (by kernel_rfl) rfl rfl ?_
  go_simp
  refine wpAny_one (i := 17) (by kernel_rfl) rfl rfl ?_
  go_simp
  refine wpAny_end (by kernel_rfl) ?_
  have XA := box4 (w := wt1) (b := w.heap.size + 1) (.int .i64 (x)) (.int .i64 (y)) (.int .i64 (m)) (.int .i64 (v)) kb0_0 kb0_1 kb0_2 kb0_3
  have XB := box4 (b := w.heap.size + 1 + 1) (.int .i64 (x + m)) (.int .i64 (y)) (.int .i64 (k)) (.int .i64 (v)) ((XA.2.2.2.2 (w.heap.size + 1 + 1) 0 (by omega)).trans kb1_0) ((XA.2.2.2.2 (w.heap.size + 1 + 1) 1 (by omega)).trans kb1_1) ((XA.2.2.2.2 (w.heap.size + 1 + 1) 2 (by omega)).trans kb1_2) ((XA.2.2.2.2 (w.heap.size + 1 + 1) 3 (by omega)).trans kb1_3)
  refine NoPan.gen (fun wf => Below w.heap.size w wf ∧ wf.cell? ⟨w.heap.size + 1, 0, none⟩ = some (.int .i64 (x)) ∧ wf.cell? ⟨w.heap.size + 1, 1, none⟩ = some (.int .i64 (y)) ∧ wf.cell? ⟨w.heap.size + 1, 2, none⟩ = some (.int .i64 (m)) ∧ wf.cell? ⟨w.heap.size + 1, 3, none⟩ = some (.int .i64 (v)) ∧ wf.cell? ⟨w.heap.size + 1 + 1, 0, none⟩ = some (.int .i64 (x + m)) ∧ wf.cell? ⟨w.heap.size + 1 + 1, 1, none⟩ = some (.int .i64 (y)) ∧ wf.cell? ⟨w.heap.size + 1 + 1, 2, none⟩ = some (.int .i64 (k)) ∧ wf.cell? ⟨w.heap.size + 1 + 1, 3, none⟩ = some (.int .i64 (v))) ⟨(by repeat (first | with_reducible exact Below.refl _ _ | with_reducible assumption | with_reducible refine balloc ?_ | (with_reducible refine bset ?_ ?_; rotate_left; ((try dsimp only); omega)) | refine bkeep2 ?_ (by assumption) | with_reducible refine Below.drew ?_)), (XB.2.2.2.2 (w.heap.size + 1) 0 (by omega)).trans XA.1, (XB.2.2.2.2 (w.heap.size + 1) 1 (by omega)).trans XA.2.1, (XB.2.2.2.2 (w.heap.size + 1) 2 (by omega)).trans XA.2.2.1, (XB.2.2.2.2 (w.heap.size + 1) 3 (by omega)).trans XA.2.2.2.1, XB.1, XB.2.1, XB.2.2.1, XB.2.2.2.1⟩ (fun wf hwf => ?_)
  clear XA XB kb0_0 kb0_1 kb0_2 kb0_3 kb1_0 kb1_1 kb1_2 kb1_3 kg0_0 kg0_1 kg0_2 kg0_3 kg1_0 kg1_1 kg1_2 kg1_3
  obtain ⟨hBf, z0, z1, z2, z3, z4, z5, z6, z7⟩ := hwf
  go_wp2
  exact bodyPost_ret (v := .tuple #[.agg #[.int .i64 (x), .int .i64 (y), .int .i64 (m), .int .i64 (v)], .agg #[.int .i64 (x + m), .int .i64 (y), .int .i64 (k), .int .i64 (v)]]) (by simp only [results, Try.results79]; go_simp) rfl ⟨rfl, (by repeat (first | with_reducible exact Below.refl _ _ | with_reducible assumption | with_reducible refine balloc ?_ | (with_reducible refine bset ?_ ?_; rotate_left; ((try dsimp only); omega)) | refine bkeep2 ?_ (by assumption) | with_reducible refine Below.drew ?_))⟩
end Go.Proofs.Ytnkoeekgdehhiaa
