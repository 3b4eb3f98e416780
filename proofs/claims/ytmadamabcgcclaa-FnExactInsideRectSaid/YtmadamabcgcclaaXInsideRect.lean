/- FnExactInsideRect: for every argument the function of the program answers as the model's. No condition. -/
import Derived.Test.YtmadamabcgcclaaFr
import Derived.Test.YtmadamabcgcclaaE
import Derived.Test.YtmadamabcgcclaaD2
import Derived.Test.YtmadamabcgcclaaS2
namespace Go.Proofs.Ytmadamabcgcclaa.xInsideRect
open Go.ChangeShapes Go.WideShapes Go.ChangeAt Go.RowKit Go.Joins
set_option linter.unusedVariables false
attribute [local go_sem 5000] run_mx run_mn run_eqlR run_neqR
attribute [local go_sem] growUpon_value growUpon_skip growUpon_enter
set_option maxHeartbeats 1000000
set_option maxRecDepth 100000 in
theorem walk (x y u v x' y' u' v' : Int) (w : World) : Calls Try.prog 7 #[.agg #[.int .i64 (x), .int .i64 (y), .int .i64 (u), .int .i64 (v)], .agg #[.int .i64 (x'), .int .i64 (y'), .int .i64 (u'), .int .i64 (v')]] w fun e w' => e = .returned (.bool true) ∧ Below w.heap.size w w' := by
  go_enter Try.func7, Try.ntmps7
  go_wp2_with fail
  refine wp_region_grow 5 1 (· < 5) (by kernel_rfl) (by kernel_rfl) rfl ?_
  iterate 5 (refine wpG_step (fun K hK => ?_); apply Exists.intro; refine ⟨.inl ⟨rfl, fun w' hw' => ?_⟩, ?_⟩; (focus ((obtain ⟨hc, hf⟩ := bcell hw'.out); (have hcS := bcellS hw'.out); go_simp <;> first | rfl | (go_at_call 10; exact toRect_any _ _ _ _ _) | (go_at_call 19; exact sInsideRect_any _ _ _ _ _ _ _ _ _) | (go_at_call 20; exact InsideRect_any _ _ _ _ _ _ _ _ _))); (go_simp; refine hK _ ?_; clear hK K))
  refine wpG_nil ?_
  refine wpK_tail (by kernel_rfl) (fun wt1 ht1 => ?_)
  obtain ⟨hct1, hft1⟩ := bcell ht1.out
  refine wpAny_one (i := 5) (by kernel_rfl) rfl rfl ?_
  go_simp
  refine wpAny_end (by kernel_rfl) ?_
  refine NoPan.thn ?_
  have kw0 : wt1.cell? ⟨w.heap.size, 0, none⟩ = some (.int .i64 (x)) := by go_simp
  have kw1 : wt1.cell? ⟨w.heap.size, 1, none⟩ = some (.int .i64 (y)) := by go_simp
  have kw2 : wt1.cell? ⟨w.heap.size, 2, none⟩ = some (.int .i64 (u)) := by go_simp
  have kw3 : wt1.cell? ⟨w.heap.size, 3, none⟩ = some (.int .i64 (v)) := by go_simp
  have kw0 : wt1.cell? ⟨w.heap.size + 1, 0, none⟩ = some (.int .i64 (x')) := by go_simp
  have kw1 : wt1.cell? ⟨w.heap.size + 1, 1, none⟩ = some (.int .i64 (y')) := by go_simp
  have kw2 : wt1.cell? ⟨w.heap.size + 1, 2, none⟩ = some (.int .i64 (u')) := by go_simp
  have kw3 : wt1.cell? ⟨w.heap.size + 1, 3, none⟩ = some (.int .i64 (v')) := by go_simp
  go_wp2_with fail
  refine wp_region_grow 5 1 (· < 5) (by kernel_rfl) (by kernel_rfl) rfl ?_
  iterate 5 (refine wpG_step (fun K hK => ?_); apply Exists.intro; refine ⟨.inl ⟨rfl, fun w' hw' => ?_⟩, ?_⟩; (focus ((obtain ⟨hc, hf⟩ := bcell hw'.out); (have hcS := bcellS hw'.out); go_simp <;> first | rfl | (go_at_call 10; exact toRect_any _ _ _ _ _) | (go_at_call 19; exact sInsideRect_any _ _ _ _ _ _ _ _ _) | (go_at_call 20; exact InsideRect_any _ _ _ _ _ _ _ _ _))); (go_simp; refine hK _ ?_; clear hK K))
  refine wpG_nil ?_
  refine wpK_tail (by kernel_rfl) (fun wt2 ht2 => ?_)
  obtain ⟨hct2, hft2⟩ := bcell ht2.out
  refine wpAny_one (i := 5) (by kernel_rfl) rfl rfl ?_
  go_simp
  refine wpAny_end (by kernel_rfl) ?_
  refine NoPan.thn ?_
  go_wp2
  all_goals go_ret
  all_goals exact ⟨ret_bool rfl, (by repeat (first | exact Below.refl _ _ | assumption | refine balloc ?_ | (refine bset ?_ ?_; rotate_left; ((try dsimp only); omega)) | refine bkeep2 ?_ (by assumption) | refine Below.drew ?_))⟩

set_option maxRecDepth 100000 in
theorem lifted (os : Os) (started : os.Started) (H : Type) (enc : TypeId × Value → H) :
    ReturnsInHanded {} Try.checked os 7 .any (Rows.fnExactInsideRectSpec.pre6 enc Try.prog Try.f7 Rows.fnExactInsideRectRow.domain false) (Rows.fnExactInsideRectSpec.post enc Try.prog Try.f7 false true false false) := by
  refine returnsInHanded_of_change (C := Try.checked) own started (by kernel_rfl) Try.func7
    (ChangeSpec.witness6 (enc := enc) (C := Try.checked) false ⟨#[], #[.agg #[.int .i64 0, .int .i64 0, .int .i64 0, .int .i64 0], .agg #[.int .i64 0, .int .i64 0, .int .i64 0, .int .i64 0]], []⟩ 8 (by kernel_rfl) (by kernel_rfl) (by kernel_rfl) (by kernel_rfl)) ?_
  intro W base args ds gs before hval0 hW hcnd _
  have hval : ∀ (j : Nat) t v, Try.f7.params[j]? = some t → args[j]? = some v → Value.okWide Try.prog W .any base t v := hval0
  have hW' := hW
  obtain ⟨p, q, hA0, hV, rfl, hfz, hnd⟩ := hW
  have hA : DataW.TrodAll enc Try.prog W 0 (fun _ => true) true Try.f7.params.toList args.toList ds p := hA0
  rw [Try.params7] at hA hval
  obtain ⟨v0, vs0, d0, ds0, p0, q0, hargs, rfl, rfl, h0, r0⟩ := trodAll_cons hA
  obtain ⟨v1, vs1, d1, ds1, p1, q1, rfl, rfl, rfl, h1, r1⟩ := trodAll_cons r0
  obtain ⟨rfl, rfl, rfl⟩ := trodAll_nil r1
  obtain rfl : args = #[v0, v1] := by cases args; simp_all
  obtain ⟨rfl, rfl⟩ := trodVars_none hV
  have k0 := h0
  have lt0 : ∀ x ∈ p0, x.block < W.heap.size := by obtain ⟨m, hm⟩ := k0; exact DataW.trod_lt m _ _ _ hm
  obtain ⟨c00, c01, c02, c03, y00, y01, y02, y03, m0, rfl, _, _, hy00, hy01, hy02, hy03⟩ := open_agg4 Try.underlying23 (by kernel_rfl) cellsR (hval 0 23 v0 rfl rfl) h0
  obtain ⟨x00, e00, _, wx00⟩ := DataW.trod_int Try.underlying3 hy00
  obtain ⟨x01, e01, _, wx01⟩ := DataW.trod_int Try.underlying3 hy01
  obtain ⟨x02, e02, _, wx02⟩ := DataW.trod_int Try.underlying3 hy02
  obtain ⟨x03, e03, _, wx03⟩ := DataW.trod_int Try.underlying3 hy03
  simp only [List.cons.injEq, and_true] at e00 e01 e02 e03
  subst e00 e01 e02 e03
  have k1 := h1
  have lt1 : ∀ x ∈ p1, x.block < W.heap.size := by obtain ⟨m, hm⟩ := k1; exact DataW.trod_lt m _ _ _ hm
  obtain ⟨c10, c11, c12, c13, y10, y11, y12, y13, m1, rfl, _, _, hy10, hy11, hy12, hy13⟩ := open_agg4 Try.underlying23 (by kernel_rfl) cellsR (hval 1 23 v1 rfl rfl) h1
  obtain ⟨x10, e10, _, wx10⟩ := DataW.trod_int Try.underlying3 hy10
  obtain ⟨x11, e11, _, wx11⟩ := DataW.trod_int Try.underlying3 hy11
  obtain ⟨x12, e12, _, wx12⟩ := DataW.trod_int Try.underlying3 hy12
  obtain ⟨x13, e13, _, wx13⟩ := DataW.trod_int Try.underlying3 hy13
  simp only [List.cons.injEq, and_true] at e10 e11 e12 e13
  subst e10 e11 e12 e13
  clear hA0 hval0
  refine (walk x00 x01 x02 x03 x10 x11 x12 x13 W).mono fun e W' ⟨he, bel⟩ => ?_
  subst he
  exact ⟨_, rfl, _, _, _, [], _, [], hW', trodAll_mk1 (shut_bool Try.underlying4 _), (trodAll_cons_mk (Below.trod laidOut (by kernel_rfl) (of_decide_eq_true (by kernel_rfl)) k0 bel lt0) (trodAll_cons_mk (Below.trod laidOut (by kernel_rfl) (of_decide_eq_true (by kernel_rfl)) k1 bel lt1) trodAll_mk0)), rfl, bel.frame _, fun h => by cases h⟩
theorem over : Rows.fnExactInsideRectRow.holds Try.pinned (OpenSpec.ofChange Rows.fnExactInsideRectSpec) :=
  OpenClaim.holds_of_wide 7 Try.f7 rfl rfl rfl rfl rfl rfl rfl ⟨rfl, rfl, rfl, rfl, rfl⟩ rfl rfl rfl rfl rfl (by kernel_rfl) Try.func7 (by kernel_rfl)
    (of_decide_eq_true (by kernel_rfl)) (by unfold Func.isWrapper; first | (rw [if_pos (by decide +kernel)]; kernel_rfl) | (rw [if_neg (by decide +kernel)]; exact ⟨rfl, rfl⟩))
    (fun os started H enc _ => lifted os started H enc)
theorem proved : Rows.FnExactInsideRectSaid := over
end Go.Proofs.Ytmadamabcgcclaa.xInsideRect
