/- FnExactLeastInside: for every argument the function of the program answers as the model's. No condition. -/
import Derived.Test.YtfhjmmajhohkjaaQ03
namespace Go.Proofs.Ytfhjmmajhohkjaa.xLeastInside
open Go.ChangeShapes Go.WideShapes Go.ChangeAt Go.RowKit Go.Joins
set_option linter.unusedVariables false
attribute [local go_sem] growUpon_value growUpon_skip growUpon_enter
set_option maxHeartbeats 1000000
set_option maxRecDepth 100000 in
theorem both (p : Plc) : ∃ t : Int, (∀ w, Calls Try.prog 17 #[.agg #[.int .i64 p.x, .int .i64 p.y, .int .i64 p.rx, .int .i64 p.ry, .int .i64 p.ww, .int .i64 p.hh, .int .i64 p.qw, .int .i64 p.qh, .int .i64 p.an]] w fun e w' => e = .returned (.int .i64 t) ∧ Below w.heap.size w w') ∧ (∀ w, Calls Try.prog 18 #[.agg #[.int .i64 p.x, .int .i64 p.y, .int .i64 p.rx, .int .i64 p.ry, .int .i64 p.ww, .int .i64 p.hh, .int .i64 p.qw, .int .i64 p.qh, .int .i64 p.an]] w fun e w' => e = .returned (.int .i64 t) ∧ Below w.heap.size w w') := by
  cases h : plB p
  · exact ⟨-1, fun w => sLeastInside_no p w h, fun w => LeastInside_no p w h⟩
  · obtain ⟨v, hv⟩ := le_ex p
    exact ⟨v, fun w => sLeastInside_yes p v w h hv, fun w => LeastInside_yes p v w h hv⟩
set_option maxRecDepth 100000 in
theorem walkP (p : Plc) (w : World) : Calls Try.prog 6 #[.agg #[.int .i64 p.x, .int .i64 p.y, .int .i64 p.rx, .int .i64 p.ry, .int .i64 p.ww, .int .i64 p.hh, .int .i64 p.qw, .int .i64 p.qh, .int .i64 p.an]] w fun e w' => e = .returned (.bool true) ∧ Below w.heap.size w w' := by
  obtain ⟨t, hS, hI⟩ := both p
  have HS := Lib.hid hS
  have HI := Lib.hid hI
  clear hS hI
  have HX := Lib.hid (new_q w (.cells #[.int .i64 p.x, .int .i64 p.y, .int .i64 p.rx, .int .i64 p.ry, .int .i64 p.ww, .int .i64 p.hh, .int .i64 p.qw, .int .i64 p.qh, .int .i64 p.an] 23))
  have HB := Lib.hid (balloc (o := .cells #[.int .i64 p.x, .int .i64 p.y, .int .i64 p.rx, .int .i64 p.ry, .int .i64 p.ww, .int .i64 p.hh, .int .i64 p.qw, .int .i64 p.qh, .int .i64 p.an] 23) (Below.refl w.heap.size w))
  go_enter Try.func6, Try.ntmps6
  go_wp2_with fail
  with_reducible refine (toPlace_v p _).mono ?_
  rintro e w1 ⟨rfl, hb⟩
  replace HX := Lib.hid ((hb.block _ (lt_q HX.out)).trans HX.out)
  replace HB := Lib.hid (bkeep2 HB.out hb)
  clear hb
  go_wp2_with fail
  with_reducible refine (HS.out _).mono ?_
  rintro e w2 ⟨rfl, hb⟩
  replace HX := Lib.hid ((hb.block _ (lt_q HX.out)).trans HX.out)
  replace HB := Lib.hid (bkeep2 HB.out hb)
  clear hb
  obtain ⟨c0, c1, c2, c3, c4, c5, c6, c7, c8⟩ := c9_q HX.out
  go_wp2_with fail
  with_reducible refine (toPlace_v p _).mono ?_
  rintro e w3 ⟨rfl, hb⟩
  clear c0 c1 c2 c3 c4 c5 c6 c7 c8
  replace HX := Lib.hid ((hb.block _ (lt_q HX.out)).trans HX.out)
  replace HB := Lib.hid (bkeep2 HB.out hb)
  clear hb
  go_wp2_with fail
  with_reducible refine (HI.out _).mono ?_
  rintro e w4 ⟨rfl, hb⟩
  replace HB := Lib.hid (bkeep2 HB.out hb)
  clear hb
  go_wp2
  go_ret
  exact ⟨rfl, HB.out⟩
theorem walk (x y rx ry ww hh qw qh an : Int) (w : World) : Calls Try.prog 6 #[.agg #[.int .i64 x, .int .i64 y, .int .i64 rx, .int .i64 ry, .int .i64 ww, .int .i64 hh, .int .i64 qw, .int .i64 qh, .int .i64 an]] w fun e w' => e = .returned (.bool true) ∧ Below w.heap.size w w' := walkP ⟨x, y, rx, ry, ww, hh, qw, qh, an⟩ w
set_option maxRecDepth 100000 in
theorem lifted (os : Os) (started : os.Started) (H : Type) (enc : TypeId × Value → H) :
    ReturnsInHanded {} Try.checked os 6 .any (Rows.fnExactLeastInsideSpec.pre6 enc Try.prog Try.f6 Rows.fnExactLeastInsideRow.domain false) (Rows.fnExactLeastInsideSpec.post enc Try.prog Try.f6 false true false false) := by
  refine returnsInHanded_of_change (C := Try.checked) own started (by kernel_rfl) Try.func6
    (ChangeSpec.witness6 (enc := enc) (C := Try.checked) false ⟨#[], #[.agg #[.int .i64 0, .int .i64 0, .int .i64 0, .int .i64 0, .int .i64 0, .int .i64 0, .int .i64 0, .int .i64 0, .int .i64 0]], []⟩ 8 (by kernel_rfl) (by kernel_rfl) (by kernel_rfl) (by kernel_rfl)) ?_
  intro W base args ds gs before hval0 hW hcnd _
  have hval : ∀ (j : Nat) t v, Try.f6.params[j]? = some t → args[j]? = some v → Value.okWide Try.prog W .any base t v := hval0
  have hW' := hW
  obtain ⟨p, q, hA0, hV, rfl, hfz, hnd⟩ := hW
  have hA : DataW.TrodAll enc Try.prog W 0 (fun _ => true) true Try.f6.params.toList args.toList ds p := hA0
  rw [Try.params6] at hA hval
  obtain ⟨v0, vs0, d0, ds0, p0, q0, hargs, rfl, rfl, h0, r0⟩ := trodAll_cons hA
  obtain ⟨rfl, rfl, rfl⟩ := trodAll_nil r0
  obtain rfl : args = #[v0] := by cases args; simp_all
  obtain ⟨rfl, rfl⟩ := trodVars_none hV
  have k0 := h0
  have lt0 : ∀ x ∈ p0, x.block < W.heap.size := by obtain ⟨m, hm⟩ := k0; exact DataW.trod_lt m _ _ _ hm
  obtain ⟨c00, c01, c02, c03, c04, c05, c06, c07, c08, y00, y01, y02, y03, y04, y05, y06, y07, y08, m0, rfl, _, _, hy00, hy01, hy02, hy03, hy04, hy05, hy06, hy07, hy08⟩ := open_agg9' Try.underlying23 (by kernel_rfl) (by kernel_rfl) (hval 0 23 v0 rfl rfl) h0
  obtain ⟨x00, e00, _, wx00⟩ := DataW.trod_int Try.underlying3 hy00
  obtain ⟨x01, e01, _, wx01⟩ := DataW.trod_int Try.underlying3 hy01
  obtain ⟨x02, e02, _, wx02⟩ := DataW.trod_int Try.underlying3 hy02
  obtain ⟨x03, e03, _, wx03⟩ := DataW.trod_int Try.underlying3 hy03
  obtain ⟨x04, e04, _, wx04⟩ := DataW.trod_int Try.underlying3 hy04
  obtain ⟨x05, e05, _, wx05⟩ := DataW.trod_int Try.underlying3 hy05
  obtain ⟨x06, e06, _, wx06⟩ := DataW.trod_int Try.underlying3 hy06
  obtain ⟨x07, e07, _, wx07⟩ := DataW.trod_int Try.underlying3 hy07
  obtain ⟨x08, e08, _, wx08⟩ := DataW.trod_int Try.underlying3 hy08
  simp only [List.cons.injEq, and_true] at e00 e01 e02 e03 e04 e05 e06 e07 e08
  subst e00 e01 e02 e03 e04 e05 e06 e07 e08
  clear hA0 hval0
  refine (walk x00 x01 x02 x03 x04 x05 x06 x07 x08 W).mono fun e W' ⟨he, bel⟩ => ?_
  subst he
  exact ⟨_, rfl, _, _, _, [], _, [], hW', trodAll_mk1 (shut_bool Try.underlying4 _), (trodAll_cons_mk (Below.trod laidOut (by kernel_rfl) (of_decide_eq_true (by kernel_rfl)) k0 bel lt0) trodAll_mk0), rfl, bel.frame _, fun h => by cases h⟩
theorem over : Rows.fnExactLeastInsideRow.holds Try.pinned (OpenSpec.ofChange Rows.fnExactLeastInsideSpec) :=
  OpenClaim.holds_of_wide 6 Try.f6 rfl rfl rfl rfl rfl rfl rfl ⟨rfl, rfl, rfl, rfl, rfl⟩ rfl rfl rfl rfl rfl (by kernel_rfl) Try.func6 (by kernel_rfl)
    (of_decide_eq_true (by kernel_rfl)) (by unfold Func.isWrapper; first | (rw [if_pos (by decide +kernel)]; kernel_rfl) | (rw [if_neg (by decide +kernel)]; exact ⟨rfl, rfl⟩))
    (fun os started H enc _ => lifted os started H enc)
theorem proved : Rows.FnExactLeastInsideSaid := over
end Go.Proofs.Ytfhjmmajhohkjaa.xLeastInside
